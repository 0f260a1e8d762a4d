import Derived.Test.YtjigbopkmffjaaaDoorGet
namespace Go.Proofs.YtjigbopkmffjaaaDoor
set_option linter.unusedVariables false
set_option linter.unusedSimpArgs false
open Go.RowKit

/-- the number that the digits say, from n on; none: 2^64 or more -/
def vl : Nat → List UInt8 → Option Nat
  | n, [] => some n
  | n, c :: r => if 144115188075855872 ≤ n then none else vl (n * 128 + c.toNat % 128) r
/-- what Number answers: the number, its bytes, the fault -/
def numS (xs : List UInt8) : Nat × Nat × Nat :=
  if nsz xs = 0 then (if xs.length < 10 then (0, 0, 10) else (0, 0, 12))
  else if xs.head? = some 128 then (0, 0, 12)
  else match vl 0 (xs.take (nsz xs)) with
    | none => (0, 0, 12)
    | some n => (n, nsz xs, 0)
def numV (xs : List UInt8) : Value := .tuple #[.int .u64 ((numS xs).1 : Nat), .int .i64 ((numS xs).2.1 : Nat), .int .i64 ((numS xs).2.2 : Nat)]
theorem vl_lt : ∀ (xs : List UInt8) (n m : Nat), n < 18446744073709551616 → vl n xs = some m → m < 18446744073709551616
  | [], n, m, h, e => by simp [vl] at e; omega
  | c :: r, n, m, h, e => by
    simp only [vl] at e
    split at e
    · cases e
    · exact vl_lt r _ m (by have := c.toNat_lt; omega) e
theorem numS_lt (xs : List UInt8) : (numS xs).1 < 18446744073709551616 ∧ (numS xs).2.1 ≤ min xs.length 10 := by
  have h1 := nsz_le xs
  unfold numS
  split
  · split <;> simp
  · split
    · simp
    · split
      · simp
      · rename_i h
        refine ⟨vl_lt _ _ _ (by omega) h, ?_⟩
        rcases h1 with h1 | h1
        · omega
        · exact h1.2.1

theorem jump_ret (l : Nat) (J : Act → World → Prop) (Q : Exit → Act → World → Prop) (a : Act) (w : World) : Exit.jump l J Q .ret a w = Q .ret a w := rfl
theorem jump_goto {l : Nat} {J : Act → World → Prop} {Q : Exit → Act → World → Prop} {a : Act} {w : World} (h : J a w) : Exit.jump l J Q (.goto l) a w := ⟨rfl, h⟩
/-- what holds at the jump to the one fault -/
def JW (w : World) (p : Prop) (a' : Act) (w' : World) : Prop := w' = w ∧ p ∧ ∃ (u0 u1 u2 u3 u4 u5 u6 u7 u8 u9 u10 u11 u12 u13 u14 u15 u16 u17 u18 u19 u20 u21 u22 u23 u24 u25 u26 u27 u28 u29 u30 u31 u32 u33 u34 u35 u36 u37 u38 u39 u40 u41 u42 : Value), a' = { tmps := #[u0, u1, u2, u3, u4, u5, u6, u7, u8, u9, u10, u11, u12, u13, u14, u15, u16, u17, u18, u19, u20, u21, u22, u23, u24, u25, u26, u27, u28, u29, u30, u31, u32, u33, u34, u35, u36, u37, u38, u39, u40, u41, u42], defers := [] }
set_option maxRecDepth 20000 in
set_option maxHeartbeats 800000 in
theorem number_any (ao : Option Addr) (cap : Nat) (xs : List UInt8) (w : World) (hx : Rd w ao xs) (hlc : xs.length ≤ cap) (hl : xs.length ≤ 140737488355328) :
    Calls Tryd.prog 113 #[.slice ao xs.length cap] w fun e w' => e = .returned (numV xs) ∧ w' = w := by
  go_enter Tryd.func113, Tryd.ntmps113
  go_wp2
  refine wp_scope_jumps 0 (JW w (Hid (numV xs = .tuple #[.int .u64 0, .int .i64 0, .int .i64 12]))) (fun _ _ => 0) rfl ?first ?pass
  case pass =>
    rintro a1 w1 ⟨rfl, HV, u0, u1, u2, u3, u4, u5, u6, u7, u8, u9, u10, u11, u12, u13, u14, u15, u16, u17, u18, u19, u20, u21, u22, u23, u24, u25, u26, u27, u28, u29, u30, u31, u32, u33, u34, u35, u36, u37, u38, u39, u40, u41, u42, rfl⟩
    go_wp2
    rw [jump_ret]
    go_ret3
    exact ⟨by rw [HV.out]; rfl, rfl⟩
  case first =>
    go_wp2_with fail
    refine (numberSize_any ao cap xs w hx hlc hl).mono ?_
    rintro e w' ⟨rfl, hw⟩
    subst hw
    by_cases h0 : nsz xs = 0
    · by_cases h10 : xs.length < 10
      · have HV : Hid (numV xs = .tuple #[.int .u64 0, .int .i64 0, .int .i64 10]) := by unfold Hid numV numS; rw [if_pos h0, if_pos h10]; rfl
        rw [h0]
        clear h0
        go_wp2
        rw [jump_ret]
        go_ret3
        exact ⟨by rw [HV.out]; rfl, rfl⟩
      · have HV : Hid (numV xs = .tuple #[.int .u64 0, .int .i64 0, .int .i64 12]) := by unfold Hid numV numS; rw [if_pos h0, if_neg h10]; rfl
        rw [h0]
        clear h0
        go_wp2
        go_step3
        exact id (α := (0 : Nat) = 0 ∧ JW _ _ _ _) ⟨rfl, rfl, HV, by (repeat apply Exists.intro); rfl⟩
    · rcases nsz_le xs with h1 | ⟨h1, h2, _⟩
      · exact absurd h1 h0
      · have hlen : 0 < xs.length := by omega
        obtain ⟨b, o, rfl, hc⟩ := hx hlen
        have hc0 := hc 0 hlen
        simp only [Nat.add_zero] at hc0
        have hhd : xs.head? = some xs[0] := List.head?_eq_getElem? ▸ List.getElem?_eq_getElem hlen
        have HNS : Hid (numS xs = if xs[0] = 128 then (0, 0, 12) else match vl 0 (xs.take (nsz xs)) with | none => (0, 0, 12) | some n => (n, nsz xs, 0)) := by
          unfold Hid numS
          rw [if_neg h0, hhd]
          simp only [Option.some.injEq]
        generalize hsz : nsz xs = s at *
        clear hsz hhd
        have hb1 : ((s : Int) == 0) = false := by simp; omega
        have hs1 : s ≤ xs.length := by omega
        clear h0 h2
        by_cases h128 : xs[0] = 128
        · have HV : Hid (numV xs = .tuple #[.int .u64 0, .int .i64 0, .int .i64 12]) := by unfold Hid numV; rw [HNS.out, if_pos h128]; rfl
          have h128b : ((xs[0].toNat : Int) == 128) = true := by rw [h128]; rfl
          clear h128
          go_wp2
          go_step3
          exact id (α := (0 : Nat) = 0 ∧ JW _ _ _ _) ⟨rfl, rfl, HV, by (repeat apply Exists.intro); rfl⟩
        · have HV : Hid (numS xs = match vl 0 (xs.take s) with | none => (0, 0, 12) | some n => (n, s, 0)) := by unfold Hid; rw [HNS.out, if_neg h128]
          have h128b : ((xs[0].toNat : Int) == 128) = false := by
            rw [beq_eq_false_iff_ne]; intro e; apply h128; apply UInt8.toNat_inj.1; simp; omega
          clear h128 HNS
          go_wp2
          go_loop [5, 28] (fun v i => ∃ k n : Nat, k ≤ s ∧ i = .int .i64 k ∧ v = .int .u64 n ∧ n < 18446744073709551616 ∧ Hid (vl 0 (xs.take s) = vl n ((xs.take s).drop k))) (fun _ i => s - (intOf i).toNat)
          case atStart => exact ⟨0, 0, Nat.zero_le _, rfl, rfl, by omega, rfl⟩
          case round =>
            obtain ⟨k, n, hk, rfl, rfl, hn, HK⟩ := hrel
            by_cases hlt : k < s
            · have hkx : k < xs.length := by omega
              have hc1 := hc k hkx
              have HK1 : Hid (vl 0 (xs.take s) = vl n (xs[k] :: (xs.take s).drop (k + 1))) := by
                unfold Hid; rw [HK.out, List.drop_eq_getElem_cons (i := k) (by simp; omega)]; simp
              clear HK hc
              by_cases hbig : 144115188075855872 ≤ n
              · have HV2 : Hid (numV xs = .tuple #[.int .u64 0, .int .i64 0, .int .i64 12]) := by
                  have e1 := HK1.out
                  simp only [vl, if_pos hbig] at e1
                  unfold Hid numV; rw [HV.out, e1]; rfl
                have hbI : (144115188075855872 : Int) ≤ (n : Int) := by omega
                have hnI : (n : Int) < 18446744073709551616 := by omega
                clear HV HK1 hbig hn
                go_wp2
                go_step3
                exact id (α := (0 : Nat) = 0 ∧ JW _ _ _ _) ⟨rfl, rfl, HV2, by (repeat apply Exists.intro); rfl⟩
              · have HK2 : Hid (vl 0 (xs.take s) = vl (n * 128 + xs[k].toNat % 128) ((xs.take s).drop (k + 1))) := by
                  have e1 := HK1.out
                  rw [vl, if_neg hbig] at e1
                  exact e1
                have hxk : (xs[k].toNat : Int) < 256 := by have := xs[k].toNat_lt; omega
                have hbI : decide ((144115188075855872 : Int) ≤ (n : Int)) = false := by simp; omega
                have HB : Hid (¬ 144115188075855872 ≤ n) := hbig
                obtain ⟨q, hq⟩ : ∃ q : Nat, q = n * 128 := ⟨_, rfl⟩
                obtain ⟨r, hr⟩ : ∃ r : Nat, r = q + xs[k].toNat % 128 := ⟨_, rfl⟩
                have hw1 : IntKind.u64.wrap ((n : Int) * 128) = (q : Int) := by rw [IntKind.wrap_u64]; omega
                have hw2 : IntKind.u64.wrap ((q : Int) + (xs[k].toNat : Int) % 128) = (r : Int) := by rw [IntKind.wrap_u64]; omega
                have HR : Hid (r = n * 128 + xs[k].toNat % 128) := by unfold Hid; omega
                clear HK1 hbig hn hq hr
                go_wp2
                go_round
                case rel => exact ⟨k + 1, n * 128 + xs[k].toNat % 128, by omega, by go_num, by rw [← HR.out], by have := HB.out; omega, HK2⟩
                case measure => simp [intOf]; omega
            · obtain rfl : k = s := by omega
              have e1 := HK.out
              rw [List.drop_of_length_le (by simp; omega), vl] at e1
              have HV2 : Hid (numV xs = .tuple #[.int .u64 n, .int .i64 k, .int .i64 0]) := by
                unfold Hid numV; rw [HV.out, e1]; rfl
              clear HV HK e1 hc
              go_wp2
              rw [jump_ret]
              go_ret3
              exact ⟨by rw [HV2.out]; rfl, rfl⟩
end Go.Proofs.YtjigbopkmffjaaaDoor
