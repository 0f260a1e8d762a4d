import Derived.Test.YtdpkommmkcmifabOpenG
import Derived.Test.YtdpkommmkcmifabWValids
namespace Go.Proofs.Ytdpkommmkcmifab
set_option linter.unusedVariables false
set_option linter.unusedSimpArgs false
open Go.RowKit
theorem OpenIs.same {b : Bun} {st st' : Int} {tm sq lf tm' sq' lf' : Nat} {xs xs' : List UInt8} {fr fr' : Nat} {nw nw' : Bool} {n n' : Int} (h : OpenIs b st tm sq lf xs fr nw n) (k : OpenIs b st' tm' sq' lf' xs' fr' nw' n') : st = st' ∧ tm = tm' ∧ sq = sq' ∧ lf = lf' ∧ xs = xs' ∧ fr = fr' ∧ nw = nw' ∧ n = n' := by
  rcases h with ⟨h1, h2, r1, r2, r3, r4, r5, r6, r7⟩ | ⟨h1, h2, h3, r1, r2, r3, r4, r5, r6, r7⟩ | ⟨h1, h2, h3, r1, r2, r3, r4, r5, r6, r7⟩ <;> rcases k with ⟨k1, k2, s1, s2, s3, s4, s5, s6, s7⟩ | ⟨k1, k2, k3, s1, s2, s3, s4, s5, s6, s7⟩ | ⟨k1, k2, k3, s1, s2, s3, s4, s5, s6, s7⟩
  · exact ⟨r1.trans s1.symm, r2.trans s2.symm, r3.trans s3.symm, r4.trans s4.symm, r5.trans s5.symm, r6.trans s6.symm, r7.trans s7.symm, h1.same k1⟩
  · exact absurd (h1.same k1) h2
  · exact absurd (h1.same k1) h2
  · exact absurd (k1.same h1) k2
  · exact ⟨r1.trans s1.symm, r2.trans s2.symm, r3.trans s3.symm, r4.trans s4.symm, r5.trans s5.symm, r6.trans s6.symm, r7.trans s7.symm, h3.trans k3.symm⟩
  · rw [h2] at k2; cases k2
  · exact absurd (k1.same h1) k2
  · rw [h2] at k2; cases k2
  · exact ⟨r1.trans s1.symm, r2.trans s2.symm, r3.trans s3.symm, r4.trans s4.symm, r5.trans s5.symm, r6.trans s6.symm, r7.trans s7.symm, h3.trans k3.symm⟩
set_option maxRecDepth 20000 in
set_option maxHeartbeats 1600000 in
theorem openRef_any (b : Bun) (ba : Option Addr) (bc : Nat) (pa : Option Addr) (pc : Nat) (w : World) (h : BunR w b ba bc pa pc) :
    Calls Try.prog 24 #[bunV b ba bc pa pc] w fun e w' => (∃ st tm sq lf a c xs fr nw n, e = .returned (.tuple #[.agg #[.int .i64 st, .int .u64 (tm : Nat), .int .u64 (sq : Nat), .int .u64 (lf : Nat), .slice a xs.length c], .int .u64 (fr : Nat), .bool nw, .int .i64 n]) ∧ OpenIs b st tm sq lf xs fr nw n ∧ Rd w' a xs) ∧ Below w.heap.size w w' := by
  unfold bunV
  obtain ⟨W0, hW0⟩ : ∃ W0 : World, W0 = (w.alloc (.cells #[.int .u64 b.fl, .int .u64 b.e0, .int .u64 b.e1, .int .u64 b.e2, .int .u64 b.e3, .int .u64 b.e4, .int .u64 b.e5, .int .u64 b.tm, .int .u64 b.sq, .int .u64 b.lf, .slice ba b.bl.length bc, .slice pa b.py.length pc] 57)).alloc (.cells #[.int .i64 0, .int .u64 0, .int .u64 0, .int .u64 0, .slice none 0 0] 27) := ⟨_, rfl⟩
  have hI : W0.heap[w.heap.size]? = some (.cells #[.int .u64 b.fl, .int .u64 b.e0, .int .u64 b.e1, .int .u64 b.e2, .int .u64 b.e3, .int .u64 b.e4, .int .u64 b.e5, .int .u64 b.tm, .int .u64 b.sq, .int .u64 b.lf, .slice ba b.bl.length bc, .slice pa b.py.length pc] 57 (0, 0)) := by rw [hW0]; exact (two_new w _ _).1
  have hb0 : Below w.heap.size w W0 := by rw [hW0]; exact al (al (Below.refl _ _) _) _
  have hR : W0.heap[w.heap.size + 1]? = some (.cells #[.int .i64 0, .int .u64 0, .int .u64 0, .int .u64 0, .slice none 0 0] 27 (0, 0)) := by rw [hW0]; exact (two_new w _ _).2
  have HS0 : Hid (w.heap.size + 1 + 1 = W0.heap.size) := by unfold Hid; rw [hW0]; simp
  go_enter Try.func24, Try.ntmps24
  go_wp2_with fail
  rw [← hW0]
  clear hW0
  refine (validRef_any b ba bc pa pc W0 (h.below hb0)).mono ?_
  rintro e w1 ⟨⟨n, rfl, hv⟩, hb1⟩
  have HV : Hid (ValidIs b n) := hv
  clear hv
  have hI1 := box_on hI hb1
  have hR1 := box_on hR hb1
  have hbw1 := below_next hb0 hb1
  obtain ⟨r0, r1, r2, r3, r4, s0, s1, s2, s3, s4⟩ := cells5 hR1
  by_cases h0 : n = 0
  rotate_left
  · go_wp2
    have hfin := heap_set5 (v0 := .int .i64 0) (v1 := .int .u64 0) (v2 := .int .u64 0) (v3 := .int .u64 0) (v4 := .slice none 0 0) hR1
    refine bodyPost_ret (results_c4 rfl _ _ (w.heap.size + 1) 27 _ (0, 0) _ rfl hfin Try.underlying27 rfl (by kernel_rfl)) rfl ?_
    exact ⟨⟨0, 0, 0, 0, none, 0, [], 0, false, n, rfl, .inl ⟨HV.out, h0, rfl, rfl, rfl, rfl, rfl, rfl, rfl⟩, Rd.nil _ _⟩, below_set5 hbw1 (Nat.le_succ _)⟩
  subst h0
  have HG : Hid (GoodB b) := by
    rcases HV.out with ⟨_, h⟩ | ⟨h, _⟩
    · cases h
    · exact h
  obtain ⟨i0, i1, i2, i3, i4, i5, i6, i7, i8, i9, i10, i11, -⟩ := cells12 hI1
  have hfl := HG.out.fl
  obtain ⟨q, hq⟩ : ∃ q, q = b.fl % 2 := ⟨_, rfl⟩
  have hqm : ((b.fl : Nat) : Int) % 2 = (q : Int) := by omega
  have hq2 : q = 0 ∨ q = 1 := by omega
  rcases hq2 with h0 | h0
  · have HC : Hid (carS b = false) := by unfold Hid carS; rw [← hq, h0]; simp
    subst h0
    clear hq
    go_wp2
    have hfin := heap_set5 (v0 := .int .i64 0) (v1 := .int .u64 0) (v2 := .int .u64 0) (v3 := .int .u64 0) (v4 := .slice none 0 0) hR1
    refine bodyPost_ret (results_c4 rfl _ _ (w.heap.size + 1) 27 _ (0, 0) _ rfl hfin Try.underlying27 rfl (by kernel_rfl)) rfl ?_
    exact ⟨⟨0, 0, 0, 0, none, 0, [], 0, false, 21, rfl, .inr (.inl ⟨HV.out, HC.out, rfl, rfl, rfl, rfl, rfl, rfl, rfl, rfl⟩), Rd.nil _ _⟩, below_set5 hbw1 (Nat.le_succ _)⟩
  · have hqc : b.fl % 2 = 1 := by omega
    subst h0
    clear hq
    by_cases h1 : b.e1 = b.e3
    rotate_left
    · have HC : Hid (carS b = false) := by unfold Hid carS; simp [h1]
      go_wp2
      have hfin := heap_set5 (v0 := .int .i64 0) (v1 := .int .u64 0) (v2 := .int .u64 0) (v3 := .int .u64 0) (v4 := .slice none 0 0) hR1
      refine bodyPost_ret (results_c4 rfl _ _ (w.heap.size + 1) 27 _ (0, 0) _ rfl hfin Try.underlying27 rfl (by kernel_rfl)) rfl ?_
      exact ⟨⟨0, 0, 0, 0, none, 0, [], 0, false, 21, rfl, .inr (.inl ⟨HV.out, HC.out, rfl, rfl, rfl, rfl, rfl, rfl, rfl, rfl⟩), Rd.nil _ _⟩, below_set5 hbw1 (Nat.le_succ _)⟩
    by_cases h2 : b.e1 < 8
    rotate_left
    · have HC : Hid (carS b = false) := by unfold Hid carS; simp [← h1, h2]
      go_wp2
      have hfin := heap_set5 (v0 := .int .i64 0) (v1 := .int .u64 0) (v2 := .int .u64 0) (v3 := .int .u64 0) (v4 := .slice none 0 0) hR1
      refine bodyPost_ret (results_c4 rfl _ _ (w.heap.size + 1) 27 _ (0, 0) _ rfl hfin Try.underlying27 rfl (by kernel_rfl)) rfl ?_
      exact ⟨⟨0, 0, 0, 0, none, 0, [], 0, false, 21, rfl, .inr (.inl ⟨HV.out, HC.out, rfl, rfl, rfl, rfl, rfl, rfl, rfl, rfl⟩), Rd.nil _ _⟩, below_set5 hbw1 (Nat.le_succ _)⟩
    have HC : Hid (carS b = true) := by unfold Hid carS; simp [hqc, ← h1, h2]
    have HE : Hid (b.e1 = b.e3) := h1
    have hw3 : IntKind.i64.wrap ((b.e3 : Nat) : Int) = ((b.e3 : Nat) : Int) := by rw [IntKind.wrap_i64]; omega
    go_wp2_with fail
    have hall := box12g hI1 (show w.heap.size ≠ w.heap.size + 1 by omega)
    have u0 := hall 0 _ rfl
    have u2 := hall 2 _ rfl
    have u3 := hall 3 _ rfl
    have u7 := hall 7 _ rfl
    have u8 := hall 8 _ rfl
    have u9 := hall 9 _ rfl
    have u11 := hall 11 _ rfl
    clear hall
    have hs0 := World.grownBy.refl w1 (some (w.heap.size + 1))
    have hs1 := gr_drw (w := w1) (some (w.heap.size + 1))
    have hs2 : w1.grownBy (((((w1.setCell ⟨w.heap.size + 1, 0, none⟩ (.int .i64 ((b.e3 : Nat) : Int))).setCell ⟨w.heap.size + 1, 1, none⟩ (.int .u64 b.tm)).setCell ⟨w.heap.size + 1, 2, none⟩ (.int .u64 b.sq)).setCell ⟨w.heap.size + 1, 3, none⟩ (.int .u64 b.lf)).setCell ⟨w.heap.size + 1, 4, none⟩ (.slice pa b.py.length pc)) (some (w.heap.size + 1)) := gr_set5
    have hs3 : w1.grownBy (((((w1.setCell ⟨w.heap.size + 1, 0, none⟩ (.int .i64 ((b.e3 : Nat) : Int))).setCell ⟨w.heap.size + 1, 1, none⟩ (.int .u64 b.tm)).setCell ⟨w.heap.size + 1, 2, none⟩ (.int .u64 b.sq)).setCell ⟨w.heap.size + 1, 3, none⟩ (.int .u64 b.lf)).setCell ⟨w.heap.size + 1, 4, none⟩ (.slice pa b.py.length pc)).drew (some (w.heap.size + 1)) := gr_below gr_set5 (Below.refl _ _).drew
    have hfin : ((((((w1.setCell ⟨w.heap.size + 1, 0, none⟩ (.int .i64 ((b.e3 : Nat) : Int))).setCell ⟨w.heap.size + 1, 1, none⟩ (.int .u64 b.tm)).setCell ⟨w.heap.size + 1, 2, none⟩ (.int .u64 b.sq)).setCell ⟨w.heap.size + 1, 3, none⟩ (.int .u64 b.lf)).setCell ⟨w.heap.size + 1, 4, none⟩ (.slice pa b.py.length pc)).drew).heap[w.heap.size + 1]? = some (.cells #[.int .i64 ((b.e3 : Nat) : Int), .int .u64 b.tm, .int .u64 b.sq, .int .u64 b.lf, .slice pa b.py.length pc] 27 (0, 0)) := box_on (heap_set5 hR1) (Below.refl _ _).drew
    have HRp : Hid (Rd (((((w1.setCell ⟨w.heap.size + 1, 0, none⟩ (.int .i64 ((b.e3 : Nat) : Int))).setCell ⟨w.heap.size + 1, 1, none⟩ (.int .u64 b.tm)).setCell ⟨w.heap.size + 1, 2, none⟩ (.int .u64 b.sq)).setCell ⟨w.heap.size + 1, 3, none⟩ (.int .u64 b.lf)).setCell ⟨w.heap.size + 1, 4, none⟩ (.slice pa b.py.length pc)).drew pa b.py) := h.rp.below (hbw1.grown hs3 hbw1.size (fun q hq => by cases hq; omega))
    have hbF : Below w.heap.size w (((((w1.setCell ⟨w.heap.size + 1, 0, none⟩ (.int .i64 ((b.e3 : Nat) : Int))).setCell ⟨w.heap.size + 1, 1, none⟩ (.int .u64 b.tm)).setCell ⟨w.heap.size + 1, 2, none⟩ (.int .u64 b.sq)).setCell ⟨w.heap.size + 1, 3, none⟩ (.int .u64 b.lf)).setCell ⟨w.heap.size + 1, 4, none⟩ (.slice pa b.py.length pc)).drew := hbw1.grown hs3 hbw1.size (fun q hq => by cases hq; omega)
    obtain ⟨p, hp⟩ : ∃ p, p = b.fl / 2 := ⟨_, rfl⟩
    have hp1 : IntKind.u64.wrap (((b.fl : Nat) : Int) / 2) = (p : Int) := by rw [IntKind.wrap_u64]; omega
    obtain ⟨q2, hq2⟩ : ∃ q2, q2 = p % 2 := ⟨_, rfl⟩
    have hp2 : (p : Int) % 2 = (q2 : Int) := by omega
    have hp3 : ((p : Nat) : Int).tmod 2 = (q2 : Int) := by rw [Int.tmod_eq_emod_of_nonneg (by omega)]; omega
    have HNW : Hid (decide (b.fl / 2 % 2 = 1) = decide (q2 = 1)) := by rw [hq2, hp]; rfl
    have hq3 : q2 = 0 ∨ q2 = 1 := by omega
    clear hp hq2 i0 i1 i2 i3 i4 i5 i6 i7 i8 i9 i10 i11 hI1 hI hR
    rcases hq3 with rfl | rfl
    all_goals
      refine wp_region_noPanic ?_
      refine wp_region_held_drew (S := (fun u => w1.grownBy u (some (w.heap.size + 1)))) (by kernel_rfl) (by with_reducible assumption) (fun hHeld => ?_)
      refine take_at (i := 0) 33 (v := ?_) rfl rfl (by kernel_rfl) (by kernel_rfl) (by kernel_rfl) (fun _ _ _ h => h) (by rfl) ?_ hHeld ?_
      rotate_left
      · (intro w hSw; (try dsimp only at hSw); go_simp; try with_reducible rfl)
      simp only [Act.put, List.setIfInBounds_toArray, List.set_cons_zero, List.set_cons_succ]
      refine take_at (i := 1) 34 (v := ?_) rfl rfl (by kernel_rfl) (by kernel_rfl) (by kernel_rfl) (fun _ _ _ h => h) (by rfl) ?_ hHeld ?_
      rotate_left
      · (intro w hSw; (try dsimp only at hSw); go_simp; try with_reducible rfl)
      simp only [Act.put, List.setIfInBounds_toArray, List.set_cons_zero, List.set_cons_succ]
      refine take_at (i := 2) 35 (v := ?_) rfl rfl (by kernel_rfl) (by kernel_rfl) (by kernel_rfl) (fun _ _ _ h => h) (by rfl) ?_ hHeld ?_
      rotate_left
      · (intro w hSw; (try dsimp only at hSw); go_simp; try with_reducible rfl)
      simp only [Act.put, List.setIfInBounds_toArray, List.set_cons_zero, List.set_cons_succ]
      refine take_at (i := 3) 36 (v := ?_) rfl rfl (by kernel_rfl) (by kernel_rfl) (by kernel_rfl) (fun _ _ _ h => h) (by rfl) ?_ hHeld ?_
      rotate_left
      · (intro w hSw; (try dsimp only at hSw); go_simp; try with_reducible rfl)
      simp only [Act.put, List.setIfInBounds_toArray, List.set_cons_zero, List.set_cons_succ]
      refine take_at (i := 4) 37 (v := ?_) rfl rfl (by kernel_rfl) (by kernel_rfl) (by kernel_rfl) (fun _ _ _ h => h) (by rfl) ?_ hHeld ?_
      rotate_left
      · (intro w hSw; (try dsimp only at hSw); go_simp; try with_reducible rfl)
      simp only [Act.put, List.setIfInBounds_toArray, List.set_cons_zero, List.set_cons_succ]
      refine take_at (i := 5) 38 (v := ?_) rfl rfl (by kernel_rfl) (by kernel_rfl) (by kernel_rfl) (fun _ _ _ h => h) (by rfl) ?_ hHeld ?_
      rotate_left
      · (intro w hSw; (try dsimp only at hSw); go_simp; try with_reducible rfl)
      simp only [Act.put, List.setIfInBounds_toArray, List.set_cons_zero, List.set_cons_succ]
      refine take_at (i := 6) 39 (v := ?_) rfl rfl (by kernel_rfl) (by kernel_rfl) (by kernel_rfl) (fun _ _ _ h => h) (by rfl) ?_ hHeld ?_
      rotate_left
      · (intro w hSw; (try dsimp only at hSw); go_simp; try with_reducible rfl)
      simp only [Act.put, List.setIfInBounds_toArray, List.set_cons_zero, List.set_cons_succ]
      refine take_at (i := 7) 40 (v := ?_) rfl rfl (by kernel_rfl) (by kernel_rfl) (by kernel_rfl) (fun _ _ _ h => h) (by rfl) ?_ hHeld ?_
      rotate_left
      · (intro w hSw; (try dsimp only at hSw); go_simp; try with_reducible rfl)
      simp only [Act.put, List.setIfInBounds_toArray, List.set_cons_zero, List.set_cons_succ]
      refine take_at (i := 8) 41 (v := ?_) rfl rfl (by kernel_rfl) (by kernel_rfl) (by kernel_rfl) (fun _ _ _ h => h) (by rfl) ?_ hHeld ?_
      rotate_left
      · (intro w hSw; (try dsimp only at hSw); go_simp; try with_reducible rfl)
      simp only [Act.put, List.setIfInBounds_toArray, List.set_cons_zero, List.set_cons_succ]
      refine take_at (i := 9) 42 (v := ?_) rfl rfl (by kernel_rfl) (by kernel_rfl) (by kernel_rfl) (fun _ _ _ h => h) (by rfl) ?_ hHeld ?_
      rotate_left
      · (intro w hSw; (try dsimp only at hSw); go_simp; try with_reducible rfl)
      simp only [Act.put, List.setIfInBounds_toArray, List.set_cons_zero, List.set_cons_succ]
      refine take_at (i := 10) 43 (v := ?_) rfl rfl (by kernel_rfl) (by kernel_rfl) (by kernel_rfl) (fun _ _ _ h => h) (by rfl) ?_ hHeld ?_
      rotate_left
      · (intro w hSw; (try dsimp only at hSw); go_simp; try with_reducible rfl)
      simp only [Act.put, List.setIfInBounds_toArray, List.set_cons_zero, List.set_cons_succ]
      refine take_at (i := 11) 44 (v := ?_) rfl rfl (by kernel_rfl) (by kernel_rfl) (by kernel_rfl) (fun _ _ _ h => h) (by rfl) ?_ hHeld ?_
      rotate_left
      · (intro w hSw; (try dsimp only at hSw); go_simp; try with_reducible rfl)
      simp only [Act.put, List.setIfInBounds_toArray, List.set_cons_zero, List.set_cons_succ]
      refine take_at (i := 12) 45 (v := ?_) rfl rfl (by kernel_rfl) (by kernel_rfl) (by kernel_rfl) (fun _ _ _ h => h) (by rfl) ?_ hHeld ?_
      rotate_left
      · (intro w hSw; (try dsimp only at hSw); go_simp; try with_reducible rfl)
      simp only [Act.put, List.setIfInBounds_toArray, List.set_cons_zero, List.set_cons_succ]
      refine take_at (i := 13) 46 (v := ?_) rfl rfl (by kernel_rfl) (by kernel_rfl) (by kernel_rfl) (fun _ _ _ h => h) (by rfl) ?_ hHeld ?_
      rotate_left
      · (intro w hSw; (try dsimp only at hSw); go_simp; try with_reducible rfl)
      simp only [Act.put, List.setIfInBounds_toArray, List.set_cons_zero, List.set_cons_succ]
      refine take_at (i := 14) 47 (v := ?_) rfl rfl (by kernel_rfl) (by kernel_rfl) (by kernel_rfl) (fun _ _ _ h => h) (by rfl) ?_ hHeld ?_
      rotate_left
      · (intro w hSw; (try dsimp only at hSw); go_simp; try with_reducible rfl)
      simp only [Act.put, List.setIfInBounds_toArray, List.set_cons_zero, List.set_cons_succ]
      refine take_at (i := 15) 48 (v := ?_) rfl rfl (by kernel_rfl) (by kernel_rfl) (by kernel_rfl) (fun _ _ _ h => h) (by rfl) ?_ hHeld ?_
      rotate_left
      · (intro w hSw; (try dsimp only at hSw); go_simp; try with_reducible rfl)
      simp only [Act.put, List.setIfInBounds_toArray, List.set_cons_zero, List.set_cons_succ]
      refine take_at (i := 16) 49 (v := ?_) rfl rfl (by kernel_rfl) (by kernel_rfl) (by kernel_rfl) (fun _ _ _ h => h) (by rfl) ?_ hHeld ?_
      rotate_left
      · (intro w hSw; (try dsimp only at hSw); go_simp; try with_reducible rfl)
      simp only [Act.put, List.setIfInBounds_toArray, List.set_cons_zero, List.set_cons_succ]
      refine take_at (i := 17) 50 (v := ?_) rfl rfl (by kernel_rfl) (by kernel_rfl) (by kernel_rfl) (fun _ _ _ h => h) (by rfl) ?_ hHeld ?_
      rotate_left
      · (intro w hSw; (try dsimp only at hSw); go_simp; try with_reducible rfl)
      simp only [Act.put, List.setIfInBounds_toArray, List.set_cons_zero, List.set_cons_succ]
      refine take_at (i := 18) 51 (v := ?_) rfl rfl (by kernel_rfl) (by kernel_rfl) (by kernel_rfl) (fun _ _ _ h => h) (by rfl) ?_ hHeld ?_
      rotate_left
      · (intro w hSw; (try dsimp only at hSw); go_simp; try with_reducible rfl)
      simp only [Act.put, List.setIfInBounds_toArray, List.set_cons_zero, List.set_cons_succ]
      refine run_at (i := 19) rfl (by kernel_rfl) (by rfl) (fun K hK => ?_)
      simp only [List.getElem_toArray, List.getElem_cons_zero, List.getElem_cons_succ]
      go_simp
      go_wp2_with fail
      refine hK.out _ _ (by with_reducible assumption) ?_
      clear hK K
      intro hHeld2
      clear hHeld
      have hHeld := hHeld2
      clear hHeld2
      try simp only [Act.put, List.setIfInBounds_toArray, List.set_cons_zero, List.set_cons_succ]
      refine take_at (i := 20) 3 (v := ?_) rfl rfl (by kernel_rfl) (by kernel_rfl) (by kernel_rfl) (fun _ _ _ h => h) (by rfl) ?_ hHeld ?_
      rotate_left
      · (intro w hSw; (try dsimp only at hSw); go_simp; try with_reducible rfl)
      simp only [Act.put, List.setIfInBounds_toArray, List.set_cons_zero, List.set_cons_succ]
      refine take_at (i := 21) 4 (v := ?_) rfl rfl (by kernel_rfl) (by kernel_rfl) (by kernel_rfl) (fun _ _ _ h => h) (by rfl) ?_ hHeld ?_
      rotate_left
      · (intro w hSw; (try dsimp only at hSw); go_simp; try with_reducible rfl)
      simp only [Act.put, List.setIfInBounds_toArray, List.set_cons_zero, List.set_cons_succ]
      refine take_at (i := 22) 5 (v := ?_) rfl rfl (by kernel_rfl) (by kernel_rfl) (by kernel_rfl) (fun _ _ _ h => h) (by rfl) ?_ hHeld ?_
      rotate_left
      · (intro w hSw; (try dsimp only at hSw); go_simp; try with_reducible rfl)
      simp only [Act.put, List.setIfInBounds_toArray, List.set_cons_zero, List.set_cons_succ]
      refine wpAnyH_done (by kernel_rfl) ?_ _
      refine NoPanic.normal ?_
      all_goals go_wp2
      all_goals refine bodyPost_ret (results_c4 rfl _ _ (w.heap.size + 1) 27 _ (0, 0) _ rfl hfin Try.underlying27 rfl (by kernel_rfl)) rfl ?_
      all_goals exact ⟨⟨(b.e3 : Nat), b.tm, b.sq, b.lf, pa, pc, b.py, b.e2, decide (b.fl / 2 % 2 = 1), 0, by rw [HNW.out]; rfl, .inr (.inr ⟨HV.out, HC.out, rfl, rfl, rfl, rfl, rfl, rfl, rfl, rfl⟩), HRp.out⟩, hbF⟩
end Go.Proofs.Ytdpkommmkcmifab
