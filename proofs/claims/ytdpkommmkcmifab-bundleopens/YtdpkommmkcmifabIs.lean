import Derived.Test.YtdpkommmkcmifabKp
import Derived.ChangeKeysEq
import Derived.Laws.StructEq
namespace Go.Proofs.Ytdpkommmkcmifab
set_option linter.unusedVariables false
set_option linter.unusedSimpArgs false
open Go.RowKit
/-- a bundle's value -/
def bunV (b : Bun) (ba : Option Addr) (bc : Nat) (pa : Option Addr) (pc : Nat) : Value :=
  .agg #[.int .u64 b.fl, .int .u64 b.e0, .int .u64 b.e1, .int .u64 b.e2, .int .u64 b.e3, .int .u64 b.e4, .int .u64 b.e5, .int .u64 b.tm, .int .u64 b.sq, .int .u64 b.lf, .slice ba b.bl.length bc, .slice pa b.py.length pc]
/-- what a bundle's value leads to can be read -/
structure BunR (w : World) (b : Bun) (ba : Option Addr) (bc : Nat) (pa : Option Addr) (pc : Nat) : Prop where
  rb : RdBlks w ba b.bl
  lb : b.bl.length ≤ bc
  nb : ba = none → bc = 0
  rp : Rd w pa b.py
  lp : b.py.length ≤ pc
  np : pa = none → pc = 0
  ok : b.ok
theorem BunR.below {w w' : World} {b : Bun} {ba : Option Addr} {bc : Nat} {pa : Option Addr} {pc : Nat} (h : BunR w b ba bc pa pc) (hb : Below w.heap.size w w') : BunR w' b ba bc pa pc :=
  ⟨h.rb.below hb, h.lb, h.nb, h.rp.below hb, h.lp, h.np, h.ok⟩
def blkV (x : Blk) (a : Option Addr) (c : Nat) : Value := .agg #[.int .u64 x.t, .int .u64 x.n, .int .u64 x.f, .slice a x.d.length c]
set_option maxRecDepth 20000 in
set_option maxHeartbeats 800000 in
theorem isBlock_t (x : Blk) (a a' : Option Addr) (c c' : Nat) (w : World) (h : Rd w a x.d) (h' : Rd w a' x.d) :
    Calls Try.prog 51 #[blkV x a c, blkV x a' c'] w fun e w' => e = .returned (.bool true) ∧ Below w.heap.size w w' := by
  unfold blkV
  have h1 := fun o1 o2 => conv_rd' ((h.alloc o1).alloc o2) _ c rfl
  have h2 := fun o1 o2 => conv_rd' ((h'.alloc o1).alloc o2) _ c' rfl
  go_enter Try.func51, Try.ntmps51
  go_wp2
  go_ret
  exact ⟨rfl, ((Below.refl _ _).alloc (Nat.le_refl _) _).alloc (by simp) _⟩
theorem al {w w1 : World} (h : Below w.heap.size w w1) (o : Obj) : Below w.heap.size w (w1.alloc o) := h.alloc h.size o
set_option maxRecDepth 40000 in
theorem eq6 (a b c d e f : Nat) (w : World) : (Op.equalIn 10000 54 (.agg #[.int .u64 a, .int .u64 b, .int .u64 c, .int .u64 d, .int .u64 e, .int .u64 f]) (.agg #[.int .u64 a, .int .u64 b, .int .u64 c, .int .u64 d, .int .u64 e, .int .u64 f])).run Try.prog w = .ok true w := by
  have u3 := Try.underlying22
  obtain ⟨i, hi⟩ : ∃ i, Try.prog.info? 22 = some i := ⟨_, rfl⟩
  rw [show (10000 : Nat) = 9999 + 1 from rfl, run_equalIn_array w 9999 _ _ Try.underlying54 hi]
  simp only [show List.range 6 = [0, 1, 2, 3, 4, 5] from rfl, Op.eqItems, show Try.prog.cellsOf 22 = 1 from by kernel_rfl]
  go_simp
theorem cell_on {w w' : World} {a : Addr} {v : Value} (hb : Below w.heap.size w w') (h : w.cell? a = some v) : w'.cell? a = some v := (hb.cell (World.block_lt_of_cell? w _ h)).trans h
set_option maxRecDepth 20000 in
set_option maxHeartbeats 1600000 in
theorem is_t (b : Bun) (ba ba' : Option Addr) (bc bc' : Nat) (pa pa' : Option Addr) (pc pc' : Nat) (w : World) (h : BunR w b ba bc pa pc) (h' : BunR w b ba' bc' pa' pc') :
    Calls Try.prog 26 #[bunV b ba bc pa pc, bunV b ba' bc' pa' pc'] w fun e w' => e = .returned (.bool true) ∧ Below w.heap.size w w' := by
  unfold bunV
  have h1 := fun o1 o2 o3 => conv_rd' (((h.rp.alloc o1).alloc o2).alloc o3) _ pc rfl
  have h2 := fun o1 o2 o3 => conv_rd' (((h'.rp.alloc o1).alloc o2).alloc o3) _ pc' rfl
  have hn := h.ok.bn
  have he6 := eq6 b.e0 b.e1 b.e2 b.e3 b.e4 b.e5
  have hlb := h.lb
  have hlb' := h'.lb
  go_enter Try.func26, Try.ntmps26
  go_wp2
  go_loopw [6] (fun i wr => ∃ k : Nat, k ≤ b.bl.length ∧ i = .int .i64 k ∧ Below w.heap.size w wr ∧ wr.cell? ⟨w.heap.size, 10, none⟩ = some (.slice ba b.bl.length bc) ∧ wr.cell? ⟨w.heap.size + 1, 10, none⟩ = some (.slice ba' b.bl.length bc')) (fun i _ => b.bl.length - (intOf i).toNat)
  case atStart =>
    refine ⟨0, Nat.zero_le _, rfl, al (al (al (Below.refl _ _) _) _) _, ?_, ?_⟩
    all_goals go_simp
  case round =>
    obtain ⟨k, hk, rfl, hbel, k1, k2⟩ := hrel
    clear h1 h2
    by_cases hlt : k < b.bl.length
    · obtain ⟨b1, o1, rfl, hx⟩ := h.rb.at k hlt
      obtain ⟨b2, o2, rfl, hx'⟩ := h'.rb.at k hlt
      have hy := hx.below hbel
      have hy' := hx'.below hbel
      have hsz := hbel.size
      obtain ⟨a, c, c0, c1, c2, c3, hr, -⟩ := hy
      obtain ⟨a', c', d0, d1, d2, d3, hr', -⟩ := hy'
      have hsb := Below.refl wr.heap.size wr
      have k1u := fun (u : World) (hu : Below wr.heap.size wr u) => cell_on hu k1
      have k2u := fun (u : World) (hu : Below wr.heap.size wr u) => cell_on hu k2
      have c0u := fun (u : World) (hu : Below wr.heap.size wr u) => cell_on hu c0
      have c1u := fun (u : World) (hu : Below wr.heap.size wr u) => cell_on hu c1
      have c2u := fun (u : World) (hu : Below wr.heap.size wr u) => cell_on hu c2
      have c3u := fun (u : World) (hu : Below wr.heap.size wr u) => cell_on hu c3
      have d0u := fun (u : World) (hu : Below wr.heap.size wr u) => cell_on hu d0
      have d1u := fun (u : World) (hu : Below wr.heap.size wr u) => cell_on hu d1
      have d2u := fun (u : World) (hu : Below wr.heap.size wr u) => cell_on hu d2
      have d3u := fun (u : World) (hu : Below wr.heap.size wr u) => cell_on hu d3
      go_wp2_with fail
      refine wp_region_noPanic ?_
      refine wp_region_held_drew (S := (fun u => Below wr.heap.size wr u)) (by kernel_rfl) (by first | exact (Below.refl _ _).drew | assumption) (fun hHeld => ?_)
      refine take_at (i := 0) 76 (v := ?_) rfl rfl (by kernel_rfl) (by kernel_rfl) (by kernel_rfl) (fun _ _ _ h => h) (by rfl) ?_ hHeld ?_
      rotate_left
      · (intro w hSw; (try dsimp only at hSw); go_simp; try with_reducible rfl)
      simp only [Act.put, List.setIfInBounds_toArray, List.set_cons_zero, List.set_cons_succ]
      refine take_at (i := 1) 77 (v := ?_) rfl rfl (by kernel_rfl) (by kernel_rfl) (by kernel_rfl) (fun _ _ _ h => h) (by rfl) ?_ hHeld ?_
      rotate_left
      · (intro w hSw; (try dsimp only at hSw); go_simp; try with_reducible rfl)
      simp only [Act.put, List.setIfInBounds_toArray, List.set_cons_zero, List.set_cons_succ]
      refine take_at (i := 2) 78 (v := ?_) rfl rfl (by kernel_rfl) (by kernel_rfl) (by kernel_rfl) (fun _ _ _ h => h) (by rfl) ?_ hHeld ?_
      rotate_left
      · (intro w hSw; (try dsimp only at hSw); go_simp; try with_reducible rfl)
      simp only [Act.put, List.setIfInBounds_toArray, List.set_cons_zero, List.set_cons_succ]
      refine take_at (i := 3) 79 (v := ?_) rfl rfl (by kernel_rfl) (by kernel_rfl) (by kernel_rfl) (fun _ _ _ h => h) (by rfl) ?_ hHeld ?_
      rotate_left
      · (intro w hSw; (try dsimp only at hSw); go_simp; try with_reducible rfl)
      simp only [Act.put, List.setIfInBounds_toArray, List.set_cons_zero, List.set_cons_succ]
      refine take_at (i := 4) 80 (v := ?_) rfl rfl (by kernel_rfl) (by kernel_rfl) (by kernel_rfl) (fun _ _ _ h => h) (by rfl) ?_ hHeld ?_
      rotate_left
      · (intro w hSw; (try dsimp only at hSw); go_simp; try with_reducible rfl)
      simp only [Act.put, List.setIfInBounds_toArray, List.set_cons_zero, List.set_cons_succ]
      refine take_at (i := 5) 81 (v := ?_) rfl rfl (by kernel_rfl) (by kernel_rfl) (by kernel_rfl) (fun _ _ _ h => h) (by rfl) ?_ hHeld ?_
      rotate_left
      · (intro w hSw; (try dsimp only at hSw); go_simp; try with_reducible rfl)
      simp only [Act.put, List.setIfInBounds_toArray, List.set_cons_zero, List.set_cons_succ]
      refine take_at (i := 6) 82 (v := ?_) rfl rfl (by kernel_rfl) (by kernel_rfl) (by kernel_rfl) (fun _ _ _ h => h) (by rfl) ?_ hHeld ?_
      rotate_left
      · (intro w hSw; (try dsimp only at hSw); go_simp; try with_reducible rfl)
      simp only [Act.put, List.setIfInBounds_toArray, List.set_cons_zero, List.set_cons_succ]
      refine take_at (i := 7) 83 (v := ?_) rfl rfl (by kernel_rfl) (by kernel_rfl) (by kernel_rfl) (fun _ _ _ h => h) (by rfl) ?_ hHeld ?_
      rotate_left
      · (intro w hSw; (try dsimp only at hSw); go_simp; try with_reducible rfl)
      simp only [Act.put, List.setIfInBounds_toArray, List.set_cons_zero, List.set_cons_succ]
      refine take_at (i := 8) 84 (v := ?_) rfl rfl (by kernel_rfl) (by kernel_rfl) (by kernel_rfl) (fun _ _ _ h => h) (by rfl) ?_ hHeld ?_
      rotate_left
      · (intro w hSw; (try dsimp only at hSw); go_simp; try with_reducible rfl)
      simp only [Act.put, List.setIfInBounds_toArray, List.set_cons_zero, List.set_cons_succ]
      refine take_at (i := 9) 85 (v := ?_) rfl rfl (by kernel_rfl) (by kernel_rfl) (by kernel_rfl) (fun _ _ _ h => h) (by rfl) ?_ hHeld ?_
      rotate_left
      · (intro w hSw; (try dsimp only at hSw); go_simp; try with_reducible rfl)
      simp only [Act.put, List.setIfInBounds_toArray, List.set_cons_zero, List.set_cons_succ]
      refine run_at (i := 10) rfl (by kernel_rfl) (by rfl) (fun K hK => ?_)
      simp only [List.getElem_toArray, List.getElem_cons_zero, List.getElem_cons_succ]
      go_simp
      first | (go_at_call 51; refine (isBlock_t b.bl[k] a a' c c' _ (hr.below (by first | exact (Below.refl _ _).drew | assumption)) (hr'.below (by first | exact (Below.refl _ _).drew | assumption))).mono ?_; rintro e w5 ⟨rfl, hb5⟩; have hS5 := below_next (B := wr) (by first | exact (Below.refl _ _).drew | assumption) hb5)
      go_wp2_with fail
      refine hK.out _ _ (by first | exact (Below.refl _ _).drew | assumption) ?_
      clear hK K
      intro hHeld2
      clear hHeld
      have hHeld := hHeld2
      clear hHeld2
      try simp only [Act.put, List.setIfInBounds_toArray, List.set_cons_zero, List.set_cons_succ]
      refine take_at (i := 11) 87 (v := ?_) rfl rfl (by kernel_rfl) (by kernel_rfl) (by kernel_rfl) (fun _ _ _ h => h) (by rfl) ?_ hHeld ?_
      rotate_left
      · (intro w hSw; (try dsimp only at hSw); go_simp; try with_reducible rfl)
      simp only [Act.put, List.setIfInBounds_toArray, List.set_cons_zero, List.set_cons_succ]
      refine wpAnyH_done (by kernel_rfl) ?_ _
      refine NoPanic.normal ?_
      all_goals go_wp2
      all_goals go_roundw
      all_goals first | (case rel => exact ⟨k + 1, by omega, by go_num, below_next hbel (by first | assumption | exact hS5), cell_on (by first | assumption | exact hS5) k1, cell_on (by first | assumption | exact hS5) k2⟩) | (case measure => simp [intOf]; omega)
    · obtain rfl : k = b.bl.length := by omega
      go_wp2
      go_ret
      exact ⟨rfl, hbel⟩
end Go.Proofs.Ytdpkommmkcmifab
