import Derived.Test.YtdpkommmkcmifabKp
import Derived.ChangeKeysEq
import Derived.Laws.StructEq
import Derived.Test.YtdpkommmkcmifabApp
namespace Go.Proofs.Ytdpkommmkcmifab
set_option linter.unusedVariables false
set_option linter.unusedSimpArgs false
open Go.RowKit
/-- a bundle's value -/
def bunV (b : Bun) (ba : Option Addr) (bc : Nat) (pa : Option Addr) (pc : Nat) : Value :=
  .agg #[.int .u64 b.fl, .int .u64 b.e0, .int .u64 b.e1, .int .u64 b.e2, .int .u64 b.e3, .int .u64 b.e4, .int .u64 b.e5, .int .u64 b.tm, .int .u64 b.sq, .int .u64 b.lf, .slice ba b.bl.length bc, .slice pa b.py.length pc]
/-- what a bundle's value leads to can be read -/
structure BunR (w : World) (b : Bun) (ba : Option Addr) (bc : Nat) (pa : Option Addr) (pc : Nat) : Prop where
  rb : RdBlks w ba b.bl
  lb : b.bl.length ≤ bc
  nb : ba = none → bc = 0
  rp : Rd w pa b.py
  lp : b.py.length ≤ pc
  np : pa = none → pc = 0
  ok : b.ok
theorem BunR.below {w w' : World} {b : Bun} {ba : Option Addr} {bc : Nat} {pa : Option Addr} {pc : Nat} (h : BunR w b ba bc pa pc) (hb : Below w.heap.size w w') : BunR w' b ba bc pa pc :=
  ⟨h.rb.below hb, h.lb, h.nb, h.rp.below hb, h.lp, h.np, h.ok⟩
def blkV (x : Blk) (a : Option Addr) (c : Nat) : Value := .agg #[.int .u64 x.t, .int .u64 x.n, .int .u64 x.f, .slice a x.d.length c]
set_option maxRecDepth 20000 in
set_option maxHeartbeats 800000 in
theorem isBlock_t (x : Blk) (a a' : Option Addr) (c c' : Nat) (w : World) (h : Rd w a x.d) (h' : Rd w a' x.d) :
    Calls Try.prog 51 #[blkV x a c, blkV x a' c'] w fun e w' => e = .returned (.bool true) ∧ Below w.heap.size w w' := by
  unfold blkV
  have h1 := fun o1 o2 => conv_rd' ((h.alloc o1).alloc o2) _ c rfl
  have h2 := fun o1 o2 => conv_rd' ((h'.alloc o1).alloc o2) _ c' rfl
  go_enter Try.func51, Try.ntmps51
  go_wp2
  go_ret
  exact ⟨rfl, ((Below.refl _ _).alloc (Nat.le_refl _) _).alloc (by simp) _⟩
theorem al {w w1 : World} (h : Below w.heap.size w w1) (o : Obj) : Below w.heap.size w (w1.alloc o) := h.alloc h.size o
set_option maxRecDepth 40000 in
theorem eq6 (a b c d e f : Nat) (w : World) : (Op.equalIn 10000 54 (.agg #[.int .u64 a, .int .u64 b, .int .u64 c, .int .u64 d, .int .u64 e, .int .u64 f]) (.agg #[.int .u64 a, .int .u64 b, .int .u64 c, .int .u64 d, .int .u64 e, .int .u64 f])).run Try.prog w = .ok true w := by
  have u3 := Try.underlying22
  obtain ⟨i, hi⟩ : ∃ i, Try.prog.info? 22 = some i := ⟨_, rfl⟩
  rw [show (10000 : Nat) = 9999 + 1 from rfl, run_equalIn_array w 9999 _ _ Try.underlying54 hi]
  simp only [show List.range 6 = [0, 1, 2, 3, 4, 5] from rfl, Op.eqItems, show Try.prog.cellsOf 22 = 1 from by kernel_rfl]
  go_simp
theorem cell_on {w w' : World} {a : Addr} {v : Value} (hb : Below w.heap.size w w') (h : w.cell? a = some v) : w'.cell? a = some v := (hb.cell (World.block_lt_of_cell? w _ h)).trans h
set_option maxRecDepth 20000 in
set_option maxHeartbeats 1600000 in
theorem is_t (b : Bun) (ba ba' : Option Addr) (bc bc' : Nat) (pa pa' : Option Addr) (pc pc' : Nat) (w : World) (h : BunR w b ba bc pa pc) (h' : BunR w b ba' bc' pa' pc') :
    Calls Try.prog 26 #[bunV b ba bc pa pc, bunV b ba' bc' pa' pc'] w fun e w' => e = .returned (.bool true) ∧ Below w.heap.size w w' := by
  unfold bunV
  have h1 := fun o1 o2 o3 => conv_rd' (((h.rp.alloc o1).alloc o2).alloc o3) _ pc rfl
  have h2 := fun o1 o2 o3 => conv_rd' (((h'.rp.alloc o1).alloc o2).alloc o3) _ pc' rfl
  have hn := h.ok.bn
  have he6 := eq6 b.e0 b.e1 b.e2 b.e3 b.e4 b.e5
  have hlb := h.lb
  have hlb' := h'.lb
  go_enter Try.func26, Try.ntmps26
  go_wp2
  go_loopw [6] (fun i wr => ∃ k : Nat, k ≤ b.bl.length ∧ i = .int .i64 k ∧ Below w.heap.size w wr ∧ wr.cell? ⟨w.heap.size, 10, none⟩ = some (.slice ba b.bl.length bc) ∧ wr.cell? ⟨w.heap.size + 1, 10, none⟩ = some (.slice ba' b.bl.length bc')) (fun i _ => b.bl.length - (intOf i).toNat)
  case atStart =>
    refine ⟨0, Nat.zero_le _, rfl, al (al (al (Below.refl _ _) _) _) _, ?_, ?_⟩
    all_goals go_simp
  case round =>
    obtain ⟨k, hk, rfl, hbel, k1, k2⟩ := hrel
    clear h1 h2
    by_cases hlt : k < b.bl.length
    · obtain ⟨b1, o1, rfl, hx⟩ := h.rb.at k hlt
      obtain ⟨b2, o2, rfl, hx'⟩ := h'.rb.at k hlt
      have hy := hx.below hbel
      have hy' := hx'.below hbel
      have hsz := hbel.size
      obtain ⟨a, c, c0, c1, c2, c3, hr, -⟩ := hy
      obtain ⟨a', c', d0, d1, d2, d3, hr', -⟩ := hy'
      have hsb := Below.refl wr.heap.size wr
      have k1u := fun (u : World) (hu : Below wr.heap.size wr u) => cell_on hu k1
      have k2u := fun (u : World) (hu : Below wr.heap.size wr u) => cell_on hu k2
      have c0u := fun (u : World) (hu : Below wr.heap.size wr u) => cell_on hu c0
      have c1u := fun (u : World) (hu : Below wr.heap.size wr u) => cell_on hu c1
      have c2u := fun (u : World) (hu : Below wr.heap.size wr u) => cell_on hu c2
      have c3u := fun (u : World) (hu : Below wr.heap.size wr u) => cell_on hu c3
      have d0u := fun (u : World) (hu : Below wr.heap.size wr u) => cell_on hu d0
      have d1u := fun (u : World) (hu : Below wr.heap.size wr u) => cell_on hu d1
      have d2u := fun (u : World) (hu : Below wr.heap.size wr u) => cell_on hu d2
      have d3u := fun (u : World) (hu : Below wr.heap.size wr u) => cell_on hu d3
      go_wp2_with fail
      refine wp_region_noPanic ?_
      refine wp_region_held_drew (S := (fun u => Below wr.heap.size wr u)) (by kernel_rfl) (by first | exact (Below.refl _ _).drew | assumption) (fun hHeld => ?_)
      refine take_at (i := 0) 76 (v := ?_) rfl rfl (by kernel_rfl) (by kernel_rfl) (by kernel_rfl) (fun _ _ _ h => h) (by rfl) ?_ hHeld ?_
      rotate_left
      · (intro w hSw; (try dsimp only at hSw); go_simp; try with_reducible rfl)
      simp only [Act.put, List.setIfInBounds_toArray, List.set_cons_zero, List.set_cons_succ]
      refine take_at (i := 1) 77 (v := ?_) rfl rfl (by kernel_rfl) (by kernel_rfl) (by kernel_rfl) (fun _ _ _ h => h) (by rfl) ?_ hHeld ?_
      rotate_left
      · (intro w hSw; (try dsimp only at hSw); go_simp; try with_reducible rfl)
      simp only [Act.put, List.setIfInBounds_toArray, List.set_cons_zero, List.set_cons_succ]
      refine take_at (i := 2) 78 (v := ?_) rfl rfl (by kernel_rfl) (by kernel_rfl) (by kernel_rfl) (fun _ _ _ h => h) (by rfl) ?_ hHeld ?_
      rotate_left
      · (intro w hSw; (try dsimp only at hSw); go_simp; try with_reducible rfl)
      simp only [Act.put, List.setIfInBounds_toArray, List.set_cons_zero, List.set_cons_succ]
      refine take_at (i := 3) 79 (v := ?_) rfl rfl (by kernel_rfl) (by kernel_rfl) (by kernel_rfl) (fun _ _ _ h => h) (by rfl) ?_ hHeld ?_
      rotate_left
      · (intro w hSw; (try dsimp only at hSw); go_simp; try with_reducible rfl)
      simp only [Act.put, List.setIfInBounds_toArray, List.set_cons_zero, List.set_cons_succ]
      refine take_at (i := 4) 80 (v := ?_) rfl rfl (by kernel_rfl) (by kernel_rfl) (by kernel_rfl) (fun _ _ _ h => h) (by rfl) ?_ hHeld ?_
      rotate_left
      · (intro w hSw; (try dsimp only at hSw); go_simp; try with_reducible rfl)
      simp only [Act.put, List.setIfInBounds_toArray, List.set_cons_zero, List.set_cons_succ]
      refine take_at (i := 5) 81 (v := ?_) rfl rfl (by kernel_rfl) (by kernel_rfl) (by kernel_rfl) (fun _ _ _ h => h) (by rfl) ?_ hHeld ?_
      rotate_left
      · (intro w hSw; (try dsimp only at hSw); go_simp; try with_reducible rfl)
      simp only [Act.put, List.setIfInBounds_toArray, List.set_cons_zero, List.set_cons_succ]
      refine take_at (i := 6) 82 (v := ?_) rfl rfl (by kernel_rfl) (by kernel_rfl) (by kernel_rfl) (fun _ _ _ h => h) (by rfl) ?_ hHeld ?_
      rotate_left
      · (intro w hSw; (try dsimp only at hSw); go_simp; try with_reducible rfl)
      simp only [Act.put, List.setIfInBounds_toArray, List.set_cons_zero, List.set_cons_succ]
      refine take_at (i := 7) 83 (v := ?_) rfl rfl (by kernel_rfl) (by kernel_rfl) (by kernel_rfl) (fun _ _ _ h => h) (by rfl) ?_ hHeld ?_
      rotate_left
      · (intro w hSw; (try dsimp only at hSw); go_simp; try with_reducible rfl)
      simp only [Act.put, List.setIfInBounds_toArray, List.set_cons_zero, List.set_cons_succ]
      refine take_at (i := 8) 84 (v := ?_) rfl rfl (by kernel_rfl) (by kernel_rfl) (by kernel_rfl) (fun _ _ _ h => h) (by rfl) ?_ hHeld ?_
      rotate_left
      · (intro w hSw; (try dsimp only at hSw); go_simp; try with_reducible rfl)
      simp only [Act.put, List.setIfInBounds_toArray, List.set_cons_zero, List.set_cons_succ]
      refine take_at (i := 9) 85 (v := ?_) rfl rfl (by kernel_rfl) (by kernel_rfl) (by kernel_rfl) (fun _ _ _ h => h) (by rfl) ?_ hHeld ?_
      rotate_left
      · (intro w hSw; (try dsimp only at hSw); go_simp; try with_reducible rfl)
      simp only [Act.put, List.setIfInBounds_toArray, List.set_cons_zero, List.set_cons_succ]
      refine run_at (i := 10) rfl (by kernel_rfl) (by rfl) (fun K hK => ?_)
      simp only [List.getElem_toArray, List.getElem_cons_zero, List.getElem_cons_succ]
      go_simp
      first | (go_at_call 51; refine (isBlock_t b.bl[k] a a' c c' _ (hr.below (by first | exact (Below.refl _ _).drew | assumption)) (hr'.below (by first | exact (Below.refl _ _).drew | assumption))).mono ?_; rintro e w5 ⟨rfl, hb5⟩; have hS5 := below_next (B := wr) (by first | exact (Below.refl _ _).drew | assumption) hb5)
      go_wp2_with fail
      refine hK.out _ _ (by first | exact (Below.refl _ _).drew | assumption) ?_
      clear hK K
      intro hHeld2
      clear hHeld
      have hHeld := hHeld2
      clear hHeld2
      try simp only [Act.put, List.setIfInBounds_toArray, List.set_cons_zero, List.set_cons_succ]
      refine take_at (i := 11) 87 (v := ?_) rfl rfl (by kernel_rfl) (by kernel_rfl) (by kernel_rfl) (fun _ _ _ h => h) (by rfl) ?_ hHeld ?_
      rotate_left
      · (intro w hSw; (try dsimp only at hSw); go_simp; try with_reducible rfl)
      simp only [Act.put, List.setIfInBounds_toArray, List.set_cons_zero, List.set_cons_succ]
      refine wpAnyH_done (by kernel_rfl) ?_ _
      refine NoPanic.normal ?_
      all_goals go_wp2
      all_goals go_roundw
      all_goals first | (case rel => exact ⟨k + 1, by omega, by go_num, below_next hbel (by first | assumption | exact hS5), cell_on (by first | assumption | exact hS5) k1, cell_on (by first | assumption | exact hS5) k2⟩) | (case measure => simp [intOf]; omega)
    · obtain rfl : k = b.bl.length := by omega
      go_wp2
      go_ret
      exact ⟨rfl, hbel⟩
end Go.Proofs.Ytdpkommmkcmifab
namespace Go.Proofs.Ytdpkommmkcmifab
set_option linter.unusedVariables false
set_option linter.unusedSimpArgs false
open Go.RowKit

/-- how many bytes the number at the front has; 0: no end among the first ten -/
def nszF : Nat → List UInt8 → Nat → Nat
  | 0, _, _ => 0
  | _ + 1, [], _ => 0
  | f + 1, x :: xs, k => if x < 128 then k + 1 else nszF f xs (k + 1)
def nsz (xs : List UInt8) : Nat := nszF 10 xs 0
theorem nszF_drop (xs : List UInt8) (f k j : Nat) (h : f + j = 10) (hk : k = j) (hall : ∀ i (hi : i < xs.length), i < j → 128 ≤ xs[i].toNat) (hj : j ≤ xs.length) : nszF f (xs.drop j) k = nsz xs := by
  subst hk
  induction k generalizing f with
  | zero => obtain rfl : f = 10 := by omega
            rfl
  | succ k ih =>
    have hx := hall k (by omega) (by omega)
    rw [← ih (f + 1) (by omega) (fun i hi hik => hall i hi (by omega)) (by omega)]
    rw [show xs.drop k = xs[k] :: xs.drop (k + 1) from List.drop_eq_getElem_cons (by omega)]
    simp only [nszF]
    rw [if_neg (by rw [UInt8.lt_iff_toNat_lt]; simp; omega)]
theorem nsz_hit (xs : List UInt8) (k : Nat) (hk : k < xs.length) (h10 : k < 10) (hall : ∀ i (hi : i < xs.length), i < k → 128 ≤ xs[i].toNat) (hx : xs[k].toNat < 128) : nsz xs = k + 1 := by
  rw [← nszF_drop xs (10 - k) k k (by omega) rfl hall (by omega), show xs.drop k = xs[k] :: xs.drop (k + 1) from List.drop_eq_getElem_cons (by omega), show 10 - k = (9 - k) + 1 from by omega]
  simp only [nszF]
  rw [if_pos (by rw [UInt8.lt_iff_toNat_lt]; simpa using hx)]
theorem nsz_miss (xs : List UInt8) (k : Nat) (hk : k = min xs.length 10) (hall : ∀ i (hi : i < xs.length), i < k → 128 ≤ xs[i].toNat) : nsz xs = 0 := by
  rw [← nszF_drop xs (10 - k) k k (by omega) rfl hall (by omega)]
  by_cases h : xs.length ≤ 10
  · rw [List.drop_of_length_le (by omega)]
    cases 10 - k <;> rfl
  · rw [show 10 - k = 0 from by omega]; rfl
theorem nszF_le (f : Nat) : ∀ (xs : List UInt8) (k : Nat), nszF f xs k = 0 ∨ (k < nszF f xs k ∧ nszF f xs k ≤ k + min xs.length f ∧ ∃ h : nszF f xs k - 1 - k < xs.length, xs[nszF f xs k - 1 - k].toNat < 128 ∧ ∀ i (hi : i < xs.length), i < nszF f xs k - 1 - k → 128 ≤ xs[i].toNat) := by
  induction f with
  | zero => intro xs k; left; cases xs <;> rfl
  | succ f ih =>
    intro xs k
    cases xs with
    | nil => left; rfl
    | cons x xs =>
      simp only [nszF]
      split
      · right
        rename_i h
        rw [UInt8.lt_iff_toNat_lt] at h
        refine ⟨by omega, by simp only [List.length_cons]; omega, by simp, ?_, ?_⟩
        · simpa using h
        · intro i hi h2; omega
      · rename_i h
        rw [UInt8.lt_iff_toNat_lt] at h
        rcases ih xs (k + 1) with h0 | ⟨h1, h2, h3, h4, h5⟩
        · left; exact h0
        · right
          have e : nszF f xs (k + 1) - 1 - k = (nszF f xs (k + 1) - 1 - (k + 1)) + 1 := by omega
          refine ⟨by omega, by simp only [List.length_cons]; omega, by rw [e]; simpa using h3, ?_, ?_⟩
          · simp only [e, List.getElem_cons_succ]; exact h4
          · intro i hi hlt
            rcases i with _ | i
            · simp at h ⊢; omega
            · simp only [List.getElem_cons_succ]
              exact h5 i (by simpa using hi) (by omega)
theorem nsz_le (xs : List UInt8) : nsz xs = 0 ∨ (0 < nsz xs ∧ nsz xs ≤ min xs.length 10 ∧ ∃ h : nsz xs - 1 < xs.length, xs[nsz xs - 1].toNat < 128 ∧ ∀ i (hi : i < xs.length), i < nsz xs - 1 → 128 ≤ xs[i].toNat) := by
  have := nszF_le 10 xs 0
  simpa [nsz] using this

set_option maxRecDepth 20000 in
set_option maxHeartbeats 400000 in
theorem numberSize_any (ao : Option Addr) (cap : Nat) (xs : List UInt8) (w : World) (hx : Rd w ao xs) (hlc : xs.length ≤ cap) (hl : xs.length ≤ 140737488355328) :
    Calls Try.prog 86 #[.slice ao xs.length cap] w fun e w' => e = .returned (.int .i64 (nsz xs : Nat)) ∧ w' = w := by
  go_enter Try.func86, Try.ntmps86
  go_wp2
  all_goals
    go_loop [11] (fun i => ∃ k : Nat, k ≤ min xs.length 10 ∧ i = .int .i64 k ∧ ∀ j (hj : j < xs.length), j < k → 128 ≤ xs[j].toNat) (fun i => 10 - (intOf i).toNat)
    case atStart => exact ⟨0, Nat.zero_le _, rfl, fun j _ h => absurd h (Nat.not_lt_zero j)⟩
    case round =>
      obtain ⟨k, hk, rfl, hall⟩ := hrel
      by_cases hlt : k < min xs.length 10
      · obtain ⟨b, o, rfl, hc⟩ := hx (by omega)
        have hc1 := hc k (by omega)
        have HA : Hid (∀ j (hj : j < xs.length), j < k → 128 ≤ xs[j].toNat) := hall
        have hkl : k < xs.length := by omega
        have hk10 : k < 10 := by omega
        clear hc hx hall
        by_cases h128 : xs[k].toNat < 128
        · have HH : Hid (nsz xs = k + 1) := nsz_hit xs k hkl hk10 HA.out h128
          go_wp2
          go_ret
          exact ⟨by rw [HH.out]; rfl, rfl⟩
        · go_wp2
          go_round
          case rel =>
            refine ⟨k + 1, by omega, by go_num, fun j hj hjk => ?_⟩
            by_cases e : j = k
            · subst e; omega
            · exact HA.out j hj (by omega)
          case measure => simp [intOf]; omega
      · have HH : Hid (nsz xs = 0) := nsz_miss xs k (by omega) hall
        have hge : ¬ k < min xs.length 10 := hlt
        have hl1 : (k = xs.length ∧ xs.length ≤ 10) ∨ (k = 10 ∧ 10 < xs.length) := by omega
        clear hall hlt
        go_wp2
        go_ret
        exact ⟨by rw [HH.out]; rfl, rfl⟩
end Go.Proofs.Ytdpkommmkcmifab
namespace Go.Proofs.Ytdpkommmkcmifab
set_option linter.unusedVariables false
set_option linter.unusedSimpArgs false
open Go.RowKit

/-- the number that the digits say, from n on; none: 2^64 or more -/
def vl : Nat → List UInt8 → Option Nat
  | n, [] => some n
  | n, c :: r => if 144115188075855872 ≤ n then none else vl (n * 128 + c.toNat % 128) r
/-- what Number answers: the number, its bytes, the fault -/
def numS (xs : List UInt8) : Nat × Nat × Nat :=
  if nsz xs = 0 then (if xs.length < 10 then (0, 0, 10) else (0, 0, 12))
  else if xs.head? = some 128 then (0, 0, 12)
  else match vl 0 (xs.take (nsz xs)) with
    | none => (0, 0, 12)
    | some n => (n, nsz xs, 0)
def numV (xs : List UInt8) : Value := .tuple #[.int .u64 ((numS xs).1 : Nat), .int .i64 ((numS xs).2.1 : Nat), .int .i64 ((numS xs).2.2 : Nat)]
theorem vl_lt : ∀ (xs : List UInt8) (n m : Nat), n < 18446744073709551616 → vl n xs = some m → m < 18446744073709551616
  | [], n, m, h, e => by simp [vl] at e; omega
  | c :: r, n, m, h, e => by
    simp only [vl] at e
    split at e
    · cases e
    · exact vl_lt r _ m (by have := c.toNat_lt; omega) e
theorem numS_lt (xs : List UInt8) : (numS xs).1 < 18446744073709551616 ∧ (numS xs).2.1 ≤ min xs.length 10 := by
  have h1 := nsz_le xs
  unfold numS
  split
  · split <;> simp
  · split
    · simp
    · split
      · simp
      · rename_i h
        refine ⟨vl_lt _ _ _ (by omega) h, ?_⟩
        rcases h1 with h1 | h1
        · omega
        · exact h1.2.1

theorem jump_ret (l : Nat) (J : Act → World → Prop) (Q : Exit → Act → World → Prop) (a : Act) (w : World) : Exit.jump l J Q .ret a w = Q .ret a w := rfl
theorem jump_goto {l : Nat} {J : Act → World → Prop} {Q : Exit → Act → World → Prop} {a : Act} {w : World} (h : J a w) : Exit.jump l J Q (.goto l) a w := ⟨rfl, h⟩
/-- what holds at the jump to the one fault -/
def JW (w : World) (p : Prop) (a' : Act) (w' : World) : Prop := w' = w ∧ p ∧ ∃ (u0 u1 u2 u3 u4 u5 u6 u7 u8 u9 u10 u11 u12 u13 u14 u15 u16 u17 u18 u19 u20 u21 u22 u23 u24 u25 u26 u27 u28 u29 u30 u31 u32 u33 u34 u35 u36 u37 u38 u39 u40 u41 u42 : Value), a' = { tmps := #[u0, u1, u2, u3, u4, u5, u6, u7, u8, u9, u10, u11, u12, u13, u14, u15, u16, u17, u18, u19, u20, u21, u22, u23, u24, u25, u26, u27, u28, u29, u30, u31, u32, u33, u34, u35, u36, u37, u38, u39, u40, u41, u42], defers := [] }
set_option maxRecDepth 20000 in
set_option maxHeartbeats 800000 in
theorem number_any (ao : Option Addr) (cap : Nat) (xs : List UInt8) (w : World) (hx : Rd w ao xs) (hlc : xs.length ≤ cap) (hl : xs.length ≤ 140737488355328) :
    Calls Try.prog 84 #[.slice ao xs.length cap] w fun e w' => e = .returned (numV xs) ∧ w' = w := by
  go_enter Try.func84, Try.ntmps84
  go_wp2
  refine wp_scope_jumps 0 (JW w (Hid (numV xs = .tuple #[.int .u64 0, .int .i64 0, .int .i64 12]))) (fun _ _ => 0) rfl ?first ?pass
  case pass =>
    rintro a1 w1 ⟨rfl, HV, u0, u1, u2, u3, u4, u5, u6, u7, u8, u9, u10, u11, u12, u13, u14, u15, u16, u17, u18, u19, u20, u21, u22, u23, u24, u25, u26, u27, u28, u29, u30, u31, u32, u33, u34, u35, u36, u37, u38, u39, u40, u41, u42, rfl⟩
    go_wp2
    rw [jump_ret]
    go_ret3
    exact ⟨by rw [HV.out]; rfl, rfl⟩
  case first =>
    go_wp2_with fail
    refine (numberSize_any ao cap xs w hx hlc hl).mono ?_
    rintro e w' ⟨rfl, hw⟩
    subst hw
    by_cases h0 : nsz xs = 0
    · by_cases h10 : xs.length < 10
      · have HV : Hid (numV xs = .tuple #[.int .u64 0, .int .i64 0, .int .i64 10]) := by unfold Hid numV numS; rw [if_pos h0, if_pos h10]; rfl
        rw [h0]
        clear h0
        go_wp2
        rw [jump_ret]
        go_ret3
        exact ⟨by rw [HV.out]; rfl, rfl⟩
      · have HV : Hid (numV xs = .tuple #[.int .u64 0, .int .i64 0, .int .i64 12]) := by unfold Hid numV numS; rw [if_pos h0, if_neg h10]; rfl
        rw [h0]
        clear h0
        go_wp2
        go_step3
        exact id (α := (0 : Nat) = 0 ∧ JW _ _ _ _) ⟨rfl, rfl, HV, by (repeat apply Exists.intro); rfl⟩
    · rcases nsz_le xs with h1 | ⟨h1, h2, _⟩
      · exact absurd h1 h0
      · have hlen : 0 < xs.length := by omega
        obtain ⟨b, o, rfl, hc⟩ := hx hlen
        have hc0 := hc 0 hlen
        simp only [Nat.add_zero] at hc0
        have hhd : xs.head? = some xs[0] := List.head?_eq_getElem? ▸ List.getElem?_eq_getElem hlen
        have HNS : Hid (numS xs = if xs[0] = 128 then (0, 0, 12) else match vl 0 (xs.take (nsz xs)) with | none => (0, 0, 12) | some n => (n, nsz xs, 0)) := by
          unfold Hid numS
          rw [if_neg h0, hhd]
          simp only [Option.some.injEq]
        generalize hsz : nsz xs = s at *
        clear hsz hhd
        have hb1 : ((s : Int) == 0) = false := by simp; omega
        have hs1 : s ≤ xs.length := by omega
        clear h0 h2
        by_cases h128 : xs[0] = 128
        · have HV : Hid (numV xs = .tuple #[.int .u64 0, .int .i64 0, .int .i64 12]) := by unfold Hid numV; rw [HNS.out, if_pos h128]; rfl
          have h128b : ((xs[0].toNat : Int) == 128) = true := by rw [h128]; rfl
          clear h128
          go_wp2
          go_step3
          exact id (α := (0 : Nat) = 0 ∧ JW _ _ _ _) ⟨rfl, rfl, HV, by (repeat apply Exists.intro); rfl⟩
        · have HV : Hid (numS xs = match vl 0 (xs.take s) with | none => (0, 0, 12) | some n => (n, s, 0)) := by unfold Hid; rw [HNS.out, if_neg h128]
          have h128b : ((xs[0].toNat : Int) == 128) = false := by
            rw [beq_eq_false_iff_ne]; intro e; apply h128; apply UInt8.toNat_inj.1; simp; omega
          clear h128 HNS
          go_wp2
          go_loop [5, 28] (fun v i => ∃ k n : Nat, k ≤ s ∧ i = .int .i64 k ∧ v = .int .u64 n ∧ n < 18446744073709551616 ∧ Hid (vl 0 (xs.take s) = vl n ((xs.take s).drop k))) (fun _ i => s - (intOf i).toNat)
          case atStart => exact ⟨0, 0, Nat.zero_le _, rfl, rfl, by omega, rfl⟩
          case round =>
            obtain ⟨k, n, hk, rfl, rfl, hn, HK⟩ := hrel
            by_cases hlt : k < s
            · have hkx : k < xs.length := by omega
              have hc1 := hc k hkx
              have HK1 : Hid (vl 0 (xs.take s) = vl n (xs[k] :: (xs.take s).drop (k + 1))) := by
                unfold Hid; rw [HK.out, List.drop_eq_getElem_cons (i := k) (by simp; omega)]; simp
              clear HK hc
              by_cases hbig : 144115188075855872 ≤ n
              · have HV2 : Hid (numV xs = .tuple #[.int .u64 0, .int .i64 0, .int .i64 12]) := by
                  have e1 := HK1.out
                  simp only [vl, if_pos hbig] at e1
                  unfold Hid numV; rw [HV.out, e1]; rfl
                have hbI : (144115188075855872 : Int) ≤ (n : Int) := by omega
                have hnI : (n : Int) < 18446744073709551616 := by omega
                clear HV HK1 hbig hn
                go_wp2
                go_step3
                exact id (α := (0 : Nat) = 0 ∧ JW _ _ _ _) ⟨rfl, rfl, HV2, by (repeat apply Exists.intro); rfl⟩
              · have HK2 : Hid (vl 0 (xs.take s) = vl (n * 128 + xs[k].toNat % 128) ((xs.take s).drop (k + 1))) := by
                  have e1 := HK1.out
                  rw [vl, if_neg hbig] at e1
                  exact e1
                have hxk : (xs[k].toNat : Int) < 256 := by have := xs[k].toNat_lt; omega
                have hbI : decide ((144115188075855872 : Int) ≤ (n : Int)) = false := by simp; omega
                have HB : Hid (¬ 144115188075855872 ≤ n) := hbig
                obtain ⟨q, hq⟩ : ∃ q : Nat, q = n * 128 := ⟨_, rfl⟩
                obtain ⟨r, hr⟩ : ∃ r : Nat, r = q + xs[k].toNat % 128 := ⟨_, rfl⟩
                have hw1 : IntKind.u64.wrap ((n : Int) * 128) = (q : Int) := by rw [IntKind.wrap_u64]; omega
                have hw2 : IntKind.u64.wrap ((q : Int) + (xs[k].toNat : Int) % 128) = (r : Int) := by rw [IntKind.wrap_u64]; omega
                have HR : Hid (r = n * 128 + xs[k].toNat % 128) := by unfold Hid; omega
                clear HK1 hbig hn hq hr
                go_wp2
                go_round
                case rel => exact ⟨k + 1, n * 128 + xs[k].toNat % 128, by omega, by go_num, by rw [← HR.out], by have := HB.out; omega, HK2⟩
                case measure => simp [intOf]; omega
            · obtain rfl : k = s := by omega
              have e1 := HK.out
              rw [List.drop_of_length_le (by simp; omega), vl] at e1
              have HV2 : Hid (numV xs = .tuple #[.int .u64 n, .int .i64 k, .int .i64 0]) := by
                unfold Hid numV; rw [HV.out, e1]; rfl
              clear HV HK e1 hc
              go_wp2
              rw [jump_ret]
              go_ret3
              exact ⟨by rw [HV2.out]; rfl, rfl⟩
end Go.Proofs.Ytdpkommmkcmifab
