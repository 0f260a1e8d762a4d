import Derived.Test.YtinphflminaijacRNew
import Derived.Test.YtinphflminaijacHelp
namespace Go.Proofs.Ytinphflminaijac
set_option linter.unusedVariables false
set_option linter.unusedSimpArgs false
open Go.RowKit
theorem rTake_len (n : Int) (ys : List UInt8) (f : Int) : (rTake n ys f).1.length ≤ ys.length := by
  unfold rTake
  split
  · split
    · simp
    · split
      · simp
      · simp; omega
  · simp
theorem rBytes_len (n : Int) (ys : List UInt8) (f : Int) : (rBytes n ys f).1.length ≤ ys.length := by
  unfold rBytes
  split
  · split
    · simp
    · split
      · split
        · simp
        · simp; omega
      · simp
  · simp
/-- what both Readers are, one beside the other; both lie from B on -/
structure Both (W w : World) (p q : Nat) (D : Option Nat) (ao : Option Addr) (cap : Nat) (xs : List UInt8) (pl : Nat) (f : Int) : Prop where
  r : RdrAt w p ao cap xs pl f
  d : ∃ ao' cap', RefAt w q D ao' cap' (xs.drop pl) f
  bel : Below W.heap.size W w
  hp : W.heap.size ≤ p
  hq : W.heap.size ≤ q
  pq : p ≠ q
  pD : D ≠ some p
  aq : ∀ a, ao = some a → a.block ≠ q
  ap : ∀ a, ao = some a → a.block < p
  Dw : ∀ d, D = some d → d < w.heap.size
theorem Both.below {W w w' : World} {p q : Nat} {D : Option Nat} {ao : Option Addr} {cap : Nat} {xs : List UInt8} {pl : Nat} {f : Int} (h : Both W w p q D ao cap xs pl f) (hb : Below w.heap.size w w') : Both W w' p q D ao cap xs pl f := by
  obtain ⟨a, c, hd⟩ := h.d
  exact ⟨h.r.below hb, ⟨a, c, hd.below hb⟩, h.bel.trans (hb.mono h.bel.size), h.hp, h.hq, h.pq, h.pD, h.aq, h.ap, fun d hd => Nat.lt_of_lt_of_le (h.Dw d hd) hb.size⟩
theorem Both.d2 {W w w2 : World} {p q : Nat} {D : Option Nat} {ao : Option Addr} {cap : Nat} {xs : List UInt8} {pl : Nat} {f : Int} (h : Both W w p q D ao cap xs pl f) (hg : w.grownBy w2 (some p)) : ∃ ao' cap', RefAt w2 q D ao' cap' (xs.drop pl) f := by
  obtain ⟨a, c, hd⟩ := h.d
  exact ⟨a, c, hd.grown hg (fun e => h.pq (Option.some.inj e).symm) (fun d hd e => h.pD (by rw [hd, e]))⟩
theorem Both.mk2 {W w w2 w3 : World} {p q : Nat} {D : Option Nat} {ao a3 : Option Addr} {cap c3 : Nat} {xs ys : List UInt8} {pl pl2 : Nat} {f f2 : Int} (h : Both W w p q D ao cap xs pl f) (hr2 : RdrAt w2 p ao cap xs pl2 f2) (hg2 : w.grownBy w2 (some p)) (hd3 : RefAt w3 q D a3 c3 ys f2) (hys : ys = xs.drop pl2) (hg3 : w2.grownBy w3 (some q)) : Both W w3 p q D ao cap xs pl2 f2 := by
  subst hys
  have hb2 : Below W.heap.size W w2 := h.bel.grown hg2 h.bel.size (fun k hk => by cases hk; exact h.hp)
  exact ⟨hr2.grown hg3 (fun e => h.pq (Option.some.inj e)) (fun a ha e => h.aq a ha (Option.some.inj e)), ⟨a3, c3, hd3⟩, hb2.grown hg3 hb2.size (fun k hk => by cases hk; exact h.hq), h.hp, h.hq, h.pq, h.pD, h.aq, h.ap, fun d hd => Nat.lt_of_lt_of_le (h.Dw d hd) (Nat.le_trans hg2.size hg3.size)⟩
/-- memory that neither has is written -/
theorem Both.spoil {W w w2 : World} {p q : Nat} {D : Option Nat} {ao : Option Addr} {cap : Nat} {xs : List UInt8} {pl : Nat} {f : Int} (h : Both W w p q D ao cap xs pl f) {row : Option Nat} (hg : w.grownBy w2 row) (hrow : ∀ g, row = some g → g ≠ p ∧ g ≠ q ∧ D ≠ some g ∧ W.heap.size ≤ g ∧ ∀ a, ao = some a → a.block ≠ g) : Both W w2 p q D ao cap xs pl f := by
  obtain ⟨a, c, hd⟩ := h.d
  exact ⟨h.r.grown hg (fun e => (hrow p e.symm).1 rfl) (fun a ha e => (hrow _ e.symm).2.2.2.2 a ha rfl), ⟨a, c, hd.grown hg (fun e => (hrow q e.symm).2.1 rfl) (fun d hd e => (hrow d e.symm).2.2.1 hd)⟩, h.bel.grown hg h.bel.size (fun k hk => (hrow k hk).2.2.2.1), h.hp, h.hq, h.pq, h.pD, h.aq, h.ap, fun d hd => Nat.lt_of_lt_of_le (h.Dw d hd) hg.size⟩
theorem own_some {av : Option Addr} {n c g : Nat} (h : Value.ownBlock (.slice av n c) = some g) : ∃ a, av = some a ∧ a.block = g := by
  rcases av with _ | a
  · cases h
  · exact ⟨a, rfl, by simpa [Value.ownBlock] using h⟩
theorem own_ne {av : Option Addr} {n c q : Nat} (h : ∀ a, av = some a → some a.block ≠ some q) : Value.ownBlock (.slice av n c) = none ∨ Value.ownBlock (.slice av n c) ≠ some q := by
  rcases av with _ | a
  · exact .inl rfl
  · right
    intro e
    obtain ⟨a', ha', hb'⟩ := own_some e
    exact h a' ha' (by rw [hb'])
set_option maxRecDepth 20000 in
set_option maxHeartbeats 3200000 in
theorem reads_any (W w : World) (p q : Nat) (D : Option Nat) (ao : Option Addr) (cap : Nat) (xs : List UInt8) (pl : Nat) (f : Int) (k i : Int) (n : Nat) (h : Both W w p q D ao cap xs pl f) (hi : i ≤ 9223372036854775807) (hx : xs.length + 64 ≤ 140737488355328) :
    Calls Try.prog 9 #[.pointer (some ⟨p, 0, none⟩), .pointer (some ⟨q, 0, none⟩), .agg #[.int .i64 k, .int .u64 n, .int .i64 i]] w fun e w' => e = .returned (.bool true) ∧ ∃ pl' f', Both W w' p q D ao cap xs pl' f' := by
  have hpw : p < w.heap.size := World.block_lt_of_cell? w _ h.r.c0
  have hqw : q < w.heap.size := by obtain ⟨_, _, hd⟩ := h.d; exact World.block_lt_of_cell? w _ hd.c0
  have hDw := h.Dw
  obtain ⟨w1, hw1⟩ : ∃ w1 : World, w1 = w.alloc (.cells #[.int .i64 k, .int .u64 n, .int .i64 i] 33) := ⟨_, rfl⟩
  have h1 : Both W w1 p q D ao cap xs pl f := by rw [hw1]; exact h.below ((Below.refl _ _).alloc (Nat.le_refl _) _)
  have b1 : w1.cell? ⟨w.heap.size, 1, none⟩ = some (.int .u64 n) := by rw [hw1]; simp
  have b2 : w1.cell? ⟨w.heap.size, 2, none⟩ = some (.int .i64 i) := by rw [hw1]; simp
  have hs1 : w1.heap.size = w.heap.size + 1 := by rw [hw1]; simp
  have HI : Hid (i ≤ 9223372036854775807) := hi
  have hwW := h.bel.size
  clear hi
  go_enter Try.func9, Try.ntmps9
  by_cases hk : k = 1
  · subst hk
    have h1d : Both W w1.drew p q D ao cap xs pl f := h1.below (Below.refl _ _).drew
    have b1d : w1.drew.cell? ⟨w.heap.size, 1, none⟩ = some (.int .u64 n) := by simpa using b1
    clear b2 HI
    go_wp2_with fail
    rw [← hw1]
    clear hw1
    refine wp_region_noPanic ?_
    refine wp_region_held_drew (S := (fun u => u.cell? ⟨w.heap.size, 1, none⟩ = some (.int .u64 n))) (by kernel_rfl) (by first | exact b1d | assumption) (fun hHeld => ?_)
    refine take_at (i := 0) 13 (v := ?_) rfl rfl (by kernel_rfl) (by kernel_rfl) (by kernel_rfl) (fun _ _ _ h => h) (by rfl) ?_ hHeld ?_
    rotate_left
    · (intro w hSw; (try dsimp only at hSw); go_simp; try with_reducible rfl)
    simp only [Act.put, List.setIfInBounds_toArray, List.set_cons_zero, List.set_cons_succ]
    refine take_at (i := 1) 14 (v := ?_) rfl rfl (by kernel_rfl) (by kernel_rfl) (by kernel_rfl) (fun _ _ _ h => h) (by rfl) ?_ hHeld ?_
    rotate_left
    · (intro w hSw; (try dsimp only at hSw); go_simp; try with_reducible rfl)
    simp only [Act.put, List.setIfInBounds_toArray, List.set_cons_zero, List.set_cons_succ]
    refine take_at (i := 2) 15 (v := ?_) rfl rfl (by kernel_rfl) (by kernel_rfl) (by kernel_rfl) (fun _ _ _ h => h) (by rfl) ?_ hHeld ?_
    rotate_left
    · (intro w hSw; (try dsimp only at hSw); go_simp; try with_reducible rfl)
    simp only [Act.put, List.setIfInBounds_toArray, List.set_cons_zero, List.set_cons_succ]
    refine take_at (i := 4) 17 (v := ?_) rfl rfl (by kernel_rfl) (by kernel_rfl) (by kernel_rfl) (fun _ _ _ h => h) (by rfl) ?_ hHeld ?_
    rotate_left
    · (intro w hSw; (try dsimp only at hSw); go_simp; try with_reducible rfl)
    simp only [Act.put, List.setIfInBounds_toArray, List.set_cons_zero, List.set_cons_succ]
    refine take_at (i := 5) 18 (v := ?_) rfl rfl (by kernel_rfl) (by kernel_rfl) (by kernel_rfl) (fun _ _ _ h => h) (by rfl) ?_ hHeld ?_
    rotate_left
    · (intro w hSw; (try dsimp only at hSw); go_simp; try with_reducible rfl)
    simp only [Act.put, List.setIfInBounds_toArray, List.set_cons_zero, List.set_cons_succ]
    refine take_at (i := 6) 19 (v := ?_) rfl rfl (by kernel_rfl) (by kernel_rfl) (by kernel_rfl) (fun _ _ _ h => h) (by rfl) ?_ hHeld ?_
    rotate_left
    · (intro w hSw; (try dsimp only at hSw); go_simp; try with_reducible rfl)
    simp only [Act.put, List.setIfInBounds_toArray, List.set_cons_zero, List.set_cons_succ]
    refine run_at (i := 3) rfl (by kernel_rfl) (by rfl) (fun K hK => ?_)
    simp only [List.getElem_toArray, List.getElem_cons_zero, List.getElem_cons_succ]
    go_simp
    first | (go_at_call 14; refine (number_r n _ h1d.r).mono ?_; rintro e w2 ⟨rfl, hr2, hg2⟩; obtain ⟨a2, c2, hd2⟩ := h1d.d2 hg2; have hb12 : w2.cell? ⟨w.heap.size, 1, none⟩ = some (.int .u64 n) := hg2.cell b1d (by simp; omega)) | (go_at_call 15; refine (number_d n w2 hd2).mono ?_; rintro e w3 ⟨rfl, ⟨a3, c3, hd3⟩, hg3⟩; have hb13 : w3.cell? ⟨w.heap.size, 1, none⟩ = some (.int .u64 n) := hg3.cell hb12 (by simp; omega))
    go_wp2_with fail
    refine hK.out _ _ (by first | exact b1d | assumption) ?_
    clear hK K
    intro hHeld2
    clear hHeld
    have hHeld := hHeld2
    clear hHeld2
    try simp only [Act.put, List.setIfInBounds_toArray, List.set_cons_zero, List.set_cons_succ]
    refine run_at (i := 7) rfl (by kernel_rfl) (by rfl) (fun K hK => ?_)
    simp only [List.getElem_toArray, List.getElem_cons_zero, List.getElem_cons_succ]
    go_simp
    first | (go_at_call 14; refine (number_r n _ h1d.r).mono ?_; rintro e w2 ⟨rfl, hr2, hg2⟩; obtain ⟨a2, c2, hd2⟩ := h1d.d2 hg2; have hb12 : w2.cell? ⟨w.heap.size, 1, none⟩ = some (.int .u64 n) := hg2.cell b1d (by simp; omega)) | (go_at_call 15; refine (number_d n w2 hd2).mono ?_; rintro e w3 ⟨rfl, ⟨a3, c3, hd3⟩, hg3⟩; have hb13 : w3.cell? ⟨w.heap.size, 1, none⟩ = some (.int .u64 n) := hg3.cell hb12 (by simp; omega))
    go_wp2_with fail
    refine hK.out _ _ (by first | exact b1d | assumption) ?_
    clear hK K
    intro hHeld2
    clear hHeld
    have hHeld := hHeld2
    clear hHeld2
    try simp only [Act.put, List.setIfInBounds_toArray, List.set_cons_zero, List.set_cons_succ]
    refine take_at (i := 8) 21 (v := ?_) rfl rfl (by kernel_rfl) (by kernel_rfl) (by kernel_rfl) (fun _ _ _ h => h) (by rfl) ?_ hHeld ?_
    rotate_left
    · (intro w hSw; (try dsimp only at hSw); go_simp; try with_reducible rfl)
    simp only [Act.put, List.setIfInBounds_toArray, List.set_cons_zero, List.set_cons_succ]
    refine take_at (i := 9) 6 (v := ?_) rfl rfl (by kernel_rfl) (by kernel_rfl) (by kernel_rfl) (fun _ _ _ h => h) (by rfl) ?_ hHeld ?_
    rotate_left
    · (intro w hSw; (try dsimp only at hSw); go_simp; try with_reducible rfl)
    simp only [Act.put, List.setIfInBounds_toArray, List.set_cons_zero, List.set_cons_succ]
    refine wpAnyH_done (by kernel_rfl) ?_ _
    refine NoPanic.normal ?_
    go_wp2
    go_ret
    exact ⟨by simp, _, _, h1d.mk2 hr2 hg2 hd3 (by rw [List.drop_drop]) hg3⟩
  · by_cases hk2 : k = 2
    · subst hk2
      have HX : Hid (xs.length + 64 ≤ 140737488355328) := hx
      clear hk b1
      go_wp2_with fail
      rw [← hw1]
      clear hw1
      refine (bytes_r i HI.out w1 h1.r).mono ?_
      rintro e w2 ⟨v2, rfl, hown2, hr2, hg2⟩
      obtain ⟨bs, kk, ff, hB⟩ : ∃ bs kk ff, rBytes i (xs.drop pl) f = (bs, kk, ff) := ⟨_, _, _, rfl⟩
      have HB : Hid (rBytes i (xs.drop pl) f = (bs, kk, ff)) := hB
      have hbl := rBytes_len i (xs.drop pl) f
      rw [hB] at hown2 hr2 hbl
      clear hB
      obtain ⟨a2, c2, hd2⟩ := h1.d2 hg2
      obtain ⟨av, cv, rfl, -, -, -, hrv, hblk⟩ := hown2.val
      have hbl2 : bs.length + 64 ≤ 140737488355328 := by have h9 : bs.length ≤ (xs.drop pl).length := hbl; have := HX.out; simp at h9; omega
      have hdr : Below w2.heap.size w2 w2.drew := (Below.refl _ _).drew
      have hgd : w2.grownBy w2.drew (some q) := gr_below (World.grownBy.refl _ _) hdr
      have b22 : w2.cell? ⟨w.heap.size, 2, none⟩ = some (.int .i64 i) := hg2.cell b2 (by simp; omega)
      have b22d : w2.drew.cell? ⟨w.heap.size, 2, none⟩ = some (.int .i64 i) := by simpa using b22
      have hd2d := hd2.below hdr
      have hcx : (convert 22 9 (.slice av bs.length cv)).run Try.prog w2.drew = .ok (.string ⟨bs.toArray⟩) w2.drew := conv_rd' (hrv.below hdr) _ cv rfl
      have hvq : ∀ a, av = some a → some a.block ≠ some q := fun a ha e => by have := hblk a ha; have := Option.some.inj e; omega
      clear hbl hx
      go_wp2_with fail
      refine wp_region_noPanic ?_
      refine wp_region_held_drew (S := (fun u => u.cell? ⟨w.heap.size, 2, none⟩ = some (.int .i64 i))) (by kernel_rfl) (by first | exact b22d | assumption) (fun hHeld => ?_)
      refine take_at (i := 0) 28 (v := ?_) rfl rfl (by kernel_rfl) (by kernel_rfl) (by kernel_rfl) (fun _ _ _ h => h) (by rfl) ?_ hHeld ?_
      rotate_left
      · (intro w hSw; (try dsimp only at hSw); go_simp; try with_reducible rfl)
      simp only [Act.put, List.setIfInBounds_toArray, List.set_cons_zero, List.set_cons_succ]
      refine take_at (i := 2) 30 (v := ?_) rfl rfl (by kernel_rfl) (by kernel_rfl) (by kernel_rfl) (fun _ _ _ h => h) (by rfl) ?_ hHeld ?_
      rotate_left
      · (intro w hSw; (try dsimp only at hSw); go_simp; try with_reducible rfl)
      simp only [Act.put, List.setIfInBounds_toArray, List.set_cons_zero, List.set_cons_succ]
      refine take_at (i := 3) 31 (v := ?_) rfl rfl (by kernel_rfl) (by kernel_rfl) (by kernel_rfl) (fun _ _ _ h => h) (by rfl) ?_ hHeld ?_
      rotate_left
      · (intro w hSw; (try dsimp only at hSw); go_simp; try with_reducible rfl)
      simp only [Act.put, List.setIfInBounds_toArray, List.set_cons_zero, List.set_cons_succ]
      refine take_at (i := 4) 32 (v := ?_) rfl rfl (by kernel_rfl) (by kernel_rfl) (by kernel_rfl) (fun _ _ _ h => h) (by rfl) ?_ hHeld ?_
      rotate_left
      · (intro w hSw; (try dsimp only at hSw); go_simp; try with_reducible rfl)
      simp only [Act.put, List.setIfInBounds_toArray, List.set_cons_zero, List.set_cons_succ]
      refine wpAnyH_ready (rs := [1, 5]) (by kernel_rfl) (by simp) ?_
      refine AllReadyH.cons (o := _) rfl (fun K hK => ?_) ?_
      focus
        rw [if_pos (by rfl)]
        refine val_wp 29 (v := ?_) rfl ?_ ?_
        rotate_left
        · (go_simp; try with_reducible rfl)
        refine hK.out _ _ (by first | exact b22d | assumption) ?_
        clear hK K
        intro hHeld2
        clear hHeld
        have hHeld := hHeld2
        clear hHeld2
        simp only [Act.put, List.setIfInBounds_toArray, List.set_cons_zero, List.set_cons_succ]
        refine run_at (i := 5) rfl (by kernel_rfl) (by rfl) (fun K hK => ?_)
        simp only [List.getElem_toArray, List.getElem_cons_zero, List.getElem_cons_succ]
        go_simp
        first | (go_at_call 17; refine (bytes_d i HI.out _ hd2d).mono ?_; rintro e w3 ⟨v3, rfl, hown3, ⟨a3, c3, hd3⟩, hg3⟩; have hg23 := hgd.trans' hg3; rw [HB.out] at hown3 hd3; obtain ⟨av3, cv3, hv3, -, -, -, hrv3, -⟩ := hown3.val; subst hv3; have hcx3 := conv_rd' (hrv.grown hg23 hvq) _ cv rfl; have hcy3 := conv_rd' hrv3 _ cv3 rfl; have b23 : w3.cell? ⟨w.heap.size, 2, none⟩ = some (.int .i64 i) := hg23.cell b22 (by simp; omega)) | (go_at_call 18; refine (spoils_n 0 av _ cv bs rfl w3 ((hown2.grown hg23 (own_ne hvq)).base (Nat.zero_le _)) hbl2 (Nat.zero_le _)).mono ?_; rintro e w4 ⟨rfl, hg4⟩; have b24 : w4.cell? ⟨w.heap.size, 2, none⟩ = some (.int .i64 i) := hg4.cell b23 (fun e => by obtain ⟨a, ha, hab⟩ := own_some e.symm; have hab2 : a.block = w.heap.size := hab; have := hblk a ha; omega))
        go_wp2_with fail
        refine hK.out _ _ (by first | exact b22d | assumption) ?_
        clear hK K
        intro hHeld2
        clear hHeld
        have hHeld := hHeld2
        clear hHeld2
        try simp only [Act.put, List.setIfInBounds_toArray, List.set_cons_zero, List.set_cons_succ]
        refine val_at (i := 6) 34 (v := ?_) rfl rfl (by kernel_rfl) (by rfl) ?_ ?_ ?_
        rotate_left
        · (go_simp; try with_reducible rfl)
        · (first | exact b22d | assumption)
        intro hHeld2
        clear hHeld
        have hHeld := hHeld2
        clear hHeld2
        simp only [Act.put, List.setIfInBounds_toArray, List.set_cons_zero, List.set_cons_succ]
        refine take_at (i := 7) 35 (v := ?_) rfl rfl (by kernel_rfl) (by kernel_rfl) (by kernel_rfl) (fun _ _ _ h => h) (by rfl) ?_ hHeld ?_
        rotate_left
        · (intro w hSw; (try dsimp only at hSw); go_simp; try with_reducible rfl)
        simp only [Act.put, List.setIfInBounds_toArray, List.set_cons_zero, List.set_cons_succ]
        refine take_at (i := 8) 36 (v := ?_) rfl rfl (by kernel_rfl) (by kernel_rfl) (by kernel_rfl) (fun _ _ _ h => h) (by rfl) ?_ hHeld ?_
        rotate_left
        · (intro w hSw; (try dsimp only at hSw); go_simp; try with_reducible rfl)
        simp only [Act.put, List.setIfInBounds_toArray, List.set_cons_zero, List.set_cons_succ]
        refine take_at (i := 9) 37 (v := ?_) rfl rfl (by kernel_rfl) (by kernel_rfl) (by kernel_rfl) (fun _ _ _ h => h) (by rfl) ?_ hHeld ?_
        rotate_left
        · (intro w hSw; (try dsimp only at hSw); go_simp; try with_reducible rfl)
        simp only [Act.put, List.setIfInBounds_toArray, List.set_cons_zero, List.set_cons_succ]
        refine run_at (i := 10) rfl (by kernel_rfl) (by rfl) (fun K hK => ?_)
        simp only [List.getElem_toArray, List.getElem_cons_zero, List.getElem_cons_succ]
        go_simp
        first | (go_at_call 17; refine (bytes_d i HI.out _ hd2d).mono ?_; rintro e w3 ⟨v3, rfl, hown3, ⟨a3, c3, hd3⟩, hg3⟩; have hg23 := hgd.trans' hg3; rw [HB.out] at hown3 hd3; obtain ⟨av3, cv3, hv3, -, -, -, hrv3, -⟩ := hown3.val; subst hv3; have hcx3 := conv_rd' (hrv.grown hg23 hvq) _ cv rfl; have hcy3 := conv_rd' hrv3 _ cv3 rfl; have b23 : w3.cell? ⟨w.heap.size, 2, none⟩ = some (.int .i64 i) := hg23.cell b22 (by simp; omega)) | (go_at_call 18; refine (spoils_n 0 av _ cv bs rfl w3 ((hown2.grown hg23 (own_ne hvq)).base (Nat.zero_le _)) hbl2 (Nat.zero_le _)).mono ?_; rintro e w4 ⟨rfl, hg4⟩; have b24 : w4.cell? ⟨w.heap.size, 2, none⟩ = some (.int .i64 i) := hg4.cell b23 (fun e => by obtain ⟨a, ha, hab⟩ := own_some e.symm; have hab2 : a.block = w.heap.size := hab; have := hblk a ha; omega))
        go_wp2_with fail
        refine hK.out _ _ (by first | exact b22d | assumption) ?_
        clear hK K
        intro hHeld2
        clear hHeld
        have hHeld := hHeld2
        clear hHeld2
        try simp only [Act.put, List.setIfInBounds_toArray, List.set_cons_zero, List.set_cons_succ]
        refine take_at (i := 11) 39 (v := ?_) rfl rfl (by kernel_rfl) (by kernel_rfl) (by kernel_rfl) (fun _ _ _ h => h) (by rfl) ?_ hHeld ?_
        rotate_left
        · (intro w hSw; (try dsimp only at hSw); go_simp; try with_reducible rfl)
        simp only [Act.put, List.setIfInBounds_toArray, List.set_cons_zero, List.set_cons_succ]
        refine take_at (i := 12) 6 (v := ?_) rfl rfl (by kernel_rfl) (by kernel_rfl) (by kernel_rfl) (fun _ _ _ h => h) (by rfl) ?_ hHeld ?_
        rotate_left
        · (intro w hSw; (try dsimp only at hSw); go_simp; try with_reducible rfl)
        simp only [Act.put, List.setIfInBounds_toArray, List.set_cons_zero, List.set_cons_succ]
        refine wpAnyH_done (by kernel_rfl) ?_ _
        refine NoPanic.normal ?_
      rotate_left 1
      refine AllReadyH.cons (o := _) rfl (fun K hK => ?_) AllReadyH.nil
      focus
        rw [if_pos (by rfl)]
        simp only [List.getElem_toArray, List.getElem_cons_zero, List.getElem_cons_succ]
        go_simp
        first | (go_at_call 17; refine (bytes_d i HI.out _ hd2d).mono ?_; rintro e w3 ⟨v3, rfl, hown3, ⟨a3, c3, hd3⟩, hg3⟩; have hg23 := hgd.trans' hg3; rw [HB.out] at hown3 hd3; obtain ⟨av3, cv3, hv3, -, -, -, hrv3, -⟩ := hown3.val; subst hv3; have hcx3 := conv_rd' (hrv.grown hg23 hvq) _ cv rfl; have hcy3 := conv_rd' hrv3 _ cv3 rfl; have b23 : w3.cell? ⟨w.heap.size, 2, none⟩ = some (.int .i64 i) := hg23.cell b22 (by simp; omega)) | (go_at_call 18; refine (spoils_n 0 av _ cv bs rfl w3 ((hown2.grown hg23 (own_ne hvq)).base (Nat.zero_le _)) hbl2 (Nat.zero_le _)).mono ?_; rintro e w4 ⟨rfl, hg4⟩; have b24 : w4.cell? ⟨w.heap.size, 2, none⟩ = some (.int .i64 i) := hg4.cell b23 (fun e => by obtain ⟨a, ha, hab⟩ := own_some e.symm; have hab2 : a.block = w.heap.size := hab; have := hblk a ha; omega))
        go_wp2_with fail
        refine hK.out _ _ (by first | exact b22d | assumption) ?_
        clear hK K
        intro hHeld2
        clear hHeld
        have hHeld := hHeld2
        clear hHeld2
        try simp only [Act.put, List.setIfInBounds_toArray, List.set_cons_zero, List.set_cons_succ]
        refine wpAnyH_ready (rs := [1, 6]) (by kernel_rfl) (by simp) ?_
        refine AllReadyH.cons (o := _) rfl (fun K hK => ?_) ?_
        focus
          rw [if_pos (by rfl)]
          refine val_wp 29 (v := ?_) rfl ?_ ?_
          rotate_left
          · (go_simp; try with_reducible rfl)
          refine hK.out _ _ (by first | exact b22d | assumption) ?_
          clear hK K
          intro hHeld2
          clear hHeld
          have hHeld := hHeld2
          clear hHeld2
          simp only [Act.put, List.setIfInBounds_toArray, List.set_cons_zero, List.set_cons_succ]
          refine val_at (i := 6) 34 (v := ?_) rfl rfl (by kernel_rfl) (by rfl) ?_ ?_ ?_
          rotate_left
          · (go_simp; try with_reducible rfl)
          · (first | exact b22d | assumption)
          intro hHeld2
          clear hHeld
          have hHeld := hHeld2
          clear hHeld2
          simp only [Act.put, List.setIfInBounds_toArray, List.set_cons_zero, List.set_cons_succ]
          refine take_at (i := 7) 35 (v := ?_) rfl rfl (by kernel_rfl) (by kernel_rfl) (by kernel_rfl) (fun _ _ _ h => h) (by rfl) ?_ hHeld ?_
          rotate_left
          · (intro w hSw; (try dsimp only at hSw); go_simp; try with_reducible rfl)
          simp only [Act.put, List.setIfInBounds_toArray, List.set_cons_zero, List.set_cons_succ]
          refine take_at (i := 8) 36 (v := ?_) rfl rfl (by kernel_rfl) (by kernel_rfl) (by kernel_rfl) (fun _ _ _ h => h) (by rfl) ?_ hHeld ?_
          rotate_left
          · (intro w hSw; (try dsimp only at hSw); go_simp; try with_reducible rfl)
          simp only [Act.put, List.setIfInBounds_toArray, List.set_cons_zero, List.set_cons_succ]
          refine take_at (i := 9) 37 (v := ?_) rfl rfl (by kernel_rfl) (by kernel_rfl) (by kernel_rfl) (fun _ _ _ h => h) (by rfl) ?_ hHeld ?_
          rotate_left
          · (intro w hSw; (try dsimp only at hSw); go_simp; try with_reducible rfl)
          simp only [Act.put, List.setIfInBounds_toArray, List.set_cons_zero, List.set_cons_succ]
          refine run_at (i := 10) rfl (by kernel_rfl) (by rfl) (fun K hK => ?_)
          simp only [List.getElem_toArray, List.getElem_cons_zero, List.getElem_cons_succ]
          go_simp
          first | (go_at_call 17; refine (bytes_d i HI.out _ hd2d).mono ?_; rintro e w3 ⟨v3, rfl, hown3, ⟨a3, c3, hd3⟩, hg3⟩; have hg23 := hgd.trans' hg3; rw [HB.out] at hown3 hd3; obtain ⟨av3, cv3, hv3, -, -, -, hrv3, -⟩ := hown3.val; subst hv3; have hcx3 := conv_rd' (hrv.grown hg23 hvq) _ cv rfl; have hcy3 := conv_rd' hrv3 _ cv3 rfl; have b23 : w3.cell? ⟨w.heap.size, 2, none⟩ = some (.int .i64 i) := hg23.cell b22 (by simp; omega)) | (go_at_call 18; refine (spoils_n 0 av _ cv bs rfl w3 ((hown2.grown hg23 (own_ne hvq)).base (Nat.zero_le _)) hbl2 (Nat.zero_le _)).mono ?_; rintro e w4 ⟨rfl, hg4⟩; have b24 : w4.cell? ⟨w.heap.size, 2, none⟩ = some (.int .i64 i) := hg4.cell b23 (fun e => by obtain ⟨a, ha, hab⟩ := own_some e.symm; have hab2 : a.block = w.heap.size := hab; have := hblk a ha; omega))
          go_wp2_with fail
          refine hK.out _ _ (by first | exact b22d | assumption) ?_
          clear hK K
          intro hHeld2
          clear hHeld
          have hHeld := hHeld2
          clear hHeld2
          try simp only [Act.put, List.setIfInBounds_toArray, List.set_cons_zero, List.set_cons_succ]
          refine take_at (i := 11) 39 (v := ?_) rfl rfl (by kernel_rfl) (by kernel_rfl) (by kernel_rfl) (fun _ _ _ h => h) (by rfl) ?_ hHeld ?_
          rotate_left
          · (intro w hSw; (try dsimp only at hSw); go_simp; try with_reducible rfl)
          simp only [Act.put, List.setIfInBounds_toArray, List.set_cons_zero, List.set_cons_succ]
          refine take_at (i := 12) 6 (v := ?_) rfl rfl (by kernel_rfl) (by kernel_rfl) (by kernel_rfl) (fun _ _ _ h => h) (by rfl) ?_ hHeld ?_
          rotate_left
          · (intro w hSw; (try dsimp only at hSw); go_simp; try with_reducible rfl)
          simp only [Act.put, List.setIfInBounds_toArray, List.set_cons_zero, List.set_cons_succ]
          refine wpAnyH_done (by kernel_rfl) ?_ _
          refine NoPanic.normal ?_
        rotate_left 1
        refine AllReadyH.cons (o := _) rfl (fun K hK => ?_) AllReadyH.nil
        focus
          rw [if_pos (by rfl)]
          refine val_wp 34 (v := ?_) rfl ?_ ?_
          rotate_left
          · (go_simp; try with_reducible rfl)
          refine hK.out _ _ (by first | exact b22d | assumption) ?_
          clear hK K
          intro hHeld2
          clear hHeld
          have hHeld := hHeld2
          clear hHeld2
          simp only [Act.put, List.setIfInBounds_toArray, List.set_cons_zero, List.set_cons_succ]
          refine val_at (i := 1) 29 (v := ?_) rfl rfl (by kernel_rfl) (by rfl) ?_ ?_ ?_
          rotate_left
          · (go_simp; try with_reducible rfl)
          · (first | exact b22d | assumption)
          intro hHeld2
          clear hHeld
          have hHeld := hHeld2
          clear hHeld2
          simp only [Act.put, List.setIfInBounds_toArray, List.set_cons_zero, List.set_cons_succ]
          refine take_at (i := 7) 35 (v := ?_) rfl rfl (by kernel_rfl) (by kernel_rfl) (by kernel_rfl) (fun _ _ _ h => h) (by rfl) ?_ hHeld ?_
          rotate_left
          · (intro w hSw; (try dsimp only at hSw); go_simp; try with_reducible rfl)
          simp only [Act.put, List.setIfInBounds_toArray, List.set_cons_zero, List.set_cons_succ]
          refine take_at (i := 8) 36 (v := ?_) rfl rfl (by kernel_rfl) (by kernel_rfl) (by kernel_rfl) (fun _ _ _ h => h) (by rfl) ?_ hHeld ?_
          rotate_left
          · (intro w hSw; (try dsimp only at hSw); go_simp; try with_reducible rfl)
          simp only [Act.put, List.setIfInBounds_toArray, List.set_cons_zero, List.set_cons_succ]
          refine take_at (i := 9) 37 (v := ?_) rfl rfl (by kernel_rfl) (by kernel_rfl) (by kernel_rfl) (fun _ _ _ h => h) (by rfl) ?_ hHeld ?_
          rotate_left
          · (intro w hSw; (try dsimp only at hSw); go_simp; try with_reducible rfl)
          simp only [Act.put, List.setIfInBounds_toArray, List.set_cons_zero, List.set_cons_succ]
          refine run_at (i := 10) rfl (by kernel_rfl) (by rfl) (fun K hK => ?_)
          simp only [List.getElem_toArray, List.getElem_cons_zero, List.getElem_cons_succ]
          go_simp
          first | (go_at_call 17; refine (bytes_d i HI.out _ hd2d).mono ?_; rintro e w3 ⟨v3, rfl, hown3, ⟨a3, c3, hd3⟩, hg3⟩; have hg23 := hgd.trans' hg3; rw [HB.out] at hown3 hd3; obtain ⟨av3, cv3, hv3, -, -, -, hrv3, -⟩ := hown3.val; subst hv3; have hcx3 := conv_rd' (hrv.grown hg23 hvq) _ cv rfl; have hcy3 := conv_rd' hrv3 _ cv3 rfl; have b23 : w3.cell? ⟨w.heap.size, 2, none⟩ = some (.int .i64 i) := hg23.cell b22 (by simp; omega)) | (go_at_call 18; refine (spoils_n 0 av _ cv bs rfl w3 ((hown2.grown hg23 (own_ne hvq)).base (Nat.zero_le _)) hbl2 (Nat.zero_le _)).mono ?_; rintro e w4 ⟨rfl, hg4⟩; have b24 : w4.cell? ⟨w.heap.size, 2, none⟩ = some (.int .i64 i) := hg4.cell b23 (fun e => by obtain ⟨a, ha, hab⟩ := own_some e.symm; have hab2 : a.block = w.heap.size := hab; have := hblk a ha; omega))
          go_wp2_with fail
          refine hK.out _ _ (by first | exact b22d | assumption) ?_
          clear hK K
          intro hHeld2
          clear hHeld
          have hHeld := hHeld2
          clear hHeld2
          try simp only [Act.put, List.setIfInBounds_toArray, List.set_cons_zero, List.set_cons_succ]
          refine take_at (i := 11) 39 (v := ?_) rfl rfl (by kernel_rfl) (by kernel_rfl) (by kernel_rfl) (fun _ _ _ h => h) (by rfl) ?_ hHeld ?_
          rotate_left
          · (intro w hSw; (try dsimp only at hSw); go_simp; try with_reducible rfl)
          simp only [Act.put, List.setIfInBounds_toArray, List.set_cons_zero, List.set_cons_succ]
          refine take_at (i := 12) 6 (v := ?_) rfl rfl (by kernel_rfl) (by kernel_rfl) (by kernel_rfl) (fun _ _ _ h => h) (by rfl) ?_ hHeld ?_
          rotate_left
          · (intro w hSw; (try dsimp only at hSw); go_simp; try with_reducible rfl)
          simp only [Act.put, List.setIfInBounds_toArray, List.set_cons_zero, List.set_cons_succ]
          refine wpAnyH_done (by kernel_rfl) ?_ _
          refine NoPanic.normal ?_
      all_goals
        go_wp2
        go_ret
        refine ⟨rfl, _, _, (h1.mk2 hr2 hg2 hd3 (by rw [List.drop_drop]) hg23).spoil hg4 (fun g hg => ?_)⟩
        obtain ⟨a, ha, hab⟩ := own_some hg
        have h9 := hblk a ha
        exact ⟨by omega, by omega, fun hD => by have := hDw _ hD; omega, by omega, fun a' ha' => by have := h1.ap a' ha'; omega⟩
    · by_cases hk3 : k = 3
      · subst hk3
        have HX : Hid (xs.length + 64 ≤ 140737488355328) := hx
        clear hk hk2 b1
        go_wp2_with fail
        rw [← hw1]
        clear hw1
        refine (take_r i w1 h1.r).mono ?_
        rintro e w2 ⟨v2, rfl, hown2, hr2, hg2⟩
        obtain ⟨bs, kk, ff, hB⟩ : ∃ bs kk ff, rTake i (xs.drop pl) f = (bs, kk, ff) := ⟨_, _, _, rfl⟩
        have HB : Hid (rTake i (xs.drop pl) f = (bs, kk, ff)) := hB
        have hbl := rTake_len i (xs.drop pl) f
        rw [hB] at hown2 hr2 hbl
        clear hB
        obtain ⟨a2, c2, hd2⟩ := h1.d2 hg2
        obtain ⟨av, cv, rfl, -, -, -, hrv, hblk⟩ := hown2.val
        have hbl2 : bs.length + 64 ≤ 140737488355328 := by have h9 : bs.length ≤ (xs.drop pl).length := hbl; have := HX.out; simp at h9; omega
        have hdr : Below w2.heap.size w2 w2.drew := (Below.refl _ _).drew
        have hgd : w2.grownBy w2.drew (some q) := gr_below (World.grownBy.refl _ _) hdr
        have b22 : w2.cell? ⟨w.heap.size, 2, none⟩ = some (.int .i64 i) := hg2.cell b2 (by simp; omega)
        have b22d : w2.drew.cell? ⟨w.heap.size, 2, none⟩ = some (.int .i64 i) := by simpa using b22
        have hd2d := hd2.below hdr
        have hcx : (convert 22 9 (.slice av bs.length cv)).run Try.prog w2.drew = .ok (.string ⟨bs.toArray⟩) w2.drew := conv_rd' (hrv.below hdr) _ cv rfl
        have hvq : ∀ a, av = some a → some a.block ≠ some q := fun a ha e => by have := hblk a ha; have := Option.some.inj e; omega
        clear hbl hx
        go_wp2_with fail
        refine wp_region_noPanic ?_
        refine wp_region_held_drew (S := (fun u => u.cell? ⟨w.heap.size, 2, none⟩ = some (.int .i64 i))) (by kernel_rfl) (by first | exact b22d | assumption) (fun hHeld => ?_)
        refine take_at (i := 0) 46 (v := ?_) rfl rfl (by kernel_rfl) (by kernel_rfl) (by kernel_rfl) (fun _ _ _ h => h) (by rfl) ?_ hHeld ?_
        rotate_left
        · (intro w hSw; (try dsimp only at hSw); go_simp; try with_reducible rfl)
        simp only [Act.put, List.setIfInBounds_toArray, List.set_cons_zero, List.set_cons_succ]
        refine take_at (i := 2) 48 (v := ?_) rfl rfl (by kernel_rfl) (by kernel_rfl) (by kernel_rfl) (fun _ _ _ h => h) (by rfl) ?_ hHeld ?_
        rotate_left
        · (intro w hSw; (try dsimp only at hSw); go_simp; try with_reducible rfl)
        simp only [Act.put, List.setIfInBounds_toArray, List.set_cons_zero, List.set_cons_succ]
        refine take_at (i := 3) 49 (v := ?_) rfl rfl (by kernel_rfl) (by kernel_rfl) (by kernel_rfl) (fun _ _ _ h => h) (by rfl) ?_ hHeld ?_
        rotate_left
        · (intro w hSw; (try dsimp only at hSw); go_simp; try with_reducible rfl)
        simp only [Act.put, List.setIfInBounds_toArray, List.set_cons_zero, List.set_cons_succ]
        refine take_at (i := 4) 50 (v := ?_) rfl rfl (by kernel_rfl) (by kernel_rfl) (by kernel_rfl) (fun _ _ _ h => h) (by rfl) ?_ hHeld ?_
        rotate_left
        · (intro w hSw; (try dsimp only at hSw); go_simp; try with_reducible rfl)
        simp only [Act.put, List.setIfInBounds_toArray, List.set_cons_zero, List.set_cons_succ]
        refine wpAnyH_ready (rs := [1, 5]) (by kernel_rfl) (by simp) ?_
        refine AllReadyH.cons (o := _) rfl (fun K hK => ?_) ?_
        focus
          rw [if_pos (by rfl)]
          refine val_wp 47 (v := ?_) rfl ?_ ?_
          rotate_left
          · (go_simp; try with_reducible rfl)
          refine hK.out _ _ (by first | exact b22d | assumption) ?_
          clear hK K
          intro hHeld2
          clear hHeld
          have hHeld := hHeld2
          clear hHeld2
          simp only [Act.put, List.setIfInBounds_toArray, List.set_cons_zero, List.set_cons_succ]
          refine run_at (i := 5) rfl (by kernel_rfl) (by rfl) (fun K hK => ?_)
          simp only [List.getElem_toArray, List.getElem_cons_zero, List.getElem_cons_succ]
          go_simp
          first | (go_at_call 20; refine (take_d i _ hd2d).mono ?_; rintro e w3 ⟨v3, rfl, hown3, ⟨a3, c3, hd3⟩, hg3⟩; have hg23 := hgd.trans' hg3; rw [HB.out] at hown3 hd3; obtain ⟨av3, cv3, hv3, -, -, -, hrv3, -⟩ := hown3.val; subst hv3; have hcx3 := conv_rd' (hrv.grown hg23 hvq) _ cv rfl; have hcy3 := conv_rd' hrv3 _ cv3 rfl; have b23 : w3.cell? ⟨w.heap.size, 2, none⟩ = some (.int .i64 i) := hg23.cell b22 (by simp; omega)) | (go_at_call 18; refine (spoils_n 0 av _ cv bs rfl w3 ((hown2.grown hg23 (own_ne hvq)).base (Nat.zero_le _)) hbl2 (Nat.zero_le _)).mono ?_; rintro e w4 ⟨rfl, hg4⟩; have b24 : w4.cell? ⟨w.heap.size, 2, none⟩ = some (.int .i64 i) := hg4.cell b23 (fun e => by obtain ⟨a, ha, hab⟩ := own_some e.symm; have hab2 : a.block = w.heap.size := hab; have := hblk a ha; omega))
          go_wp2_with fail
          refine hK.out _ _ (by first | exact b22d | assumption) ?_
          clear hK K
          intro hHeld2
          clear hHeld
          have hHeld := hHeld2
          clear hHeld2
          try simp only [Act.put, List.setIfInBounds_toArray, List.set_cons_zero, List.set_cons_succ]
          refine val_at (i := 6) 52 (v := ?_) rfl rfl (by kernel_rfl) (by rfl) ?_ ?_ ?_
          rotate_left
          · (go_simp; try with_reducible rfl)
          · (first | exact b22d | assumption)
          intro hHeld2
          clear hHeld
          have hHeld := hHeld2
          clear hHeld2
          simp only [Act.put, List.setIfInBounds_toArray, List.set_cons_zero, List.set_cons_succ]
          refine take_at (i := 7) 53 (v := ?_) rfl rfl (by kernel_rfl) (by kernel_rfl) (by kernel_rfl) (fun _ _ _ h => h) (by rfl) ?_ hHeld ?_
          rotate_left
          · (intro w hSw; (try dsimp only at hSw); go_simp; try with_reducible rfl)
          simp only [Act.put, List.setIfInBounds_toArray, List.set_cons_zero, List.set_cons_succ]
          refine take_at (i := 8) 54 (v := ?_) rfl rfl (by kernel_rfl) (by kernel_rfl) (by kernel_rfl) (fun _ _ _ h => h) (by rfl) ?_ hHeld ?_
          rotate_left
          · (intro w hSw; (try dsimp only at hSw); go_simp; try with_reducible rfl)
          simp only [Act.put, List.setIfInBounds_toArray, List.set_cons_zero, List.set_cons_succ]
          refine take_at (i := 9) 55 (v := ?_) rfl rfl (by kernel_rfl) (by kernel_rfl) (by kernel_rfl) (fun _ _ _ h => h) (by rfl) ?_ hHeld ?_
          rotate_left
          · (intro w hSw; (try dsimp only at hSw); go_simp; try with_reducible rfl)
          simp only [Act.put, List.setIfInBounds_toArray, List.set_cons_zero, List.set_cons_succ]
          refine run_at (i := 10) rfl (by kernel_rfl) (by rfl) (fun K hK => ?_)
          simp only [List.getElem_toArray, List.getElem_cons_zero, List.getElem_cons_succ]
          go_simp
          first | (go_at_call 20; refine (take_d i _ hd2d).mono ?_; rintro e w3 ⟨v3, rfl, hown3, ⟨a3, c3, hd3⟩, hg3⟩; have hg23 := hgd.trans' hg3; rw [HB.out] at hown3 hd3; obtain ⟨av3, cv3, hv3, -, -, -, hrv3, -⟩ := hown3.val; subst hv3; have hcx3 := conv_rd' (hrv.grown hg23 hvq) _ cv rfl; have hcy3 := conv_rd' hrv3 _ cv3 rfl; have b23 : w3.cell? ⟨w.heap.size, 2, none⟩ = some (.int .i64 i) := hg23.cell b22 (by simp; omega)) | (go_at_call 18; refine (spoils_n 0 av _ cv bs rfl w3 ((hown2.grown hg23 (own_ne hvq)).base (Nat.zero_le _)) hbl2 (Nat.zero_le _)).mono ?_; rintro e w4 ⟨rfl, hg4⟩; have b24 : w4.cell? ⟨w.heap.size, 2, none⟩ = some (.int .i64 i) := hg4.cell b23 (fun e => by obtain ⟨a, ha, hab⟩ := own_some e.symm; have hab2 : a.block = w.heap.size := hab; have := hblk a ha; omega))
          go_wp2_with fail
          refine hK.out _ _ (by first | exact b22d | assumption) ?_
          clear hK K
          intro hHeld2
          clear hHeld
          have hHeld := hHeld2
          clear hHeld2
          try simp only [Act.put, List.setIfInBounds_toArray, List.set_cons_zero, List.set_cons_succ]
          refine take_at (i := 11) 57 (v := ?_) rfl rfl (by kernel_rfl) (by kernel_rfl) (by kernel_rfl) (fun _ _ _ h => h) (by rfl) ?_ hHeld ?_
          rotate_left
          · (intro w hSw; (try dsimp only at hSw); go_simp; try with_reducible rfl)
          simp only [Act.put, List.setIfInBounds_toArray, List.set_cons_zero, List.set_cons_succ]
          refine take_at (i := 12) 6 (v := ?_) rfl rfl (by kernel_rfl) (by kernel_rfl) (by kernel_rfl) (fun _ _ _ h => h) (by rfl) ?_ hHeld ?_
          rotate_left
          · (intro w hSw; (try dsimp only at hSw); go_simp; try with_reducible rfl)
          simp only [Act.put, List.setIfInBounds_toArray, List.set_cons_zero, List.set_cons_succ]
          refine wpAnyH_done (by kernel_rfl) ?_ _
          refine NoPanic.normal ?_
        rotate_left 1
        refine AllReadyH.cons (o := _) rfl (fun K hK => ?_) AllReadyH.nil
        focus
          rw [if_pos (by rfl)]
          simp only [List.getElem_toArray, List.getElem_cons_zero, List.getElem_cons_succ]
          go_simp
          first | (go_at_call 20; refine (take_d i _ hd2d).mono ?_; rintro e w3 ⟨v3, rfl, hown3, ⟨a3, c3, hd3⟩, hg3⟩; have hg23 := hgd.trans' hg3; rw [HB.out] at hown3 hd3; obtain ⟨av3, cv3, hv3, -, -, -, hrv3, -⟩ := hown3.val; subst hv3; have hcx3 := conv_rd' (hrv.grown hg23 hvq) _ cv rfl; have hcy3 := conv_rd' hrv3 _ cv3 rfl; have b23 : w3.cell? ⟨w.heap.size, 2, none⟩ = some (.int .i64 i) := hg23.cell b22 (by simp; omega)) | (go_at_call 18; refine (spoils_n 0 av _ cv bs rfl w3 ((hown2.grown hg23 (own_ne hvq)).base (Nat.zero_le _)) hbl2 (Nat.zero_le _)).mono ?_; rintro e w4 ⟨rfl, hg4⟩; have b24 : w4.cell? ⟨w.heap.size, 2, none⟩ = some (.int .i64 i) := hg4.cell b23 (fun e => by obtain ⟨a, ha, hab⟩ := own_some e.symm; have hab2 : a.block = w.heap.size := hab; have := hblk a ha; omega))
          go_wp2_with fail
          refine hK.out _ _ (by first | exact b22d | assumption) ?_
          clear hK K
          intro hHeld2
          clear hHeld
          have hHeld := hHeld2
          clear hHeld2
          try simp only [Act.put, List.setIfInBounds_toArray, List.set_cons_zero, List.set_cons_succ]
          refine wpAnyH_ready (rs := [1, 6]) (by kernel_rfl) (by simp) ?_
          refine AllReadyH.cons (o := _) rfl (fun K hK => ?_) ?_
          focus
            rw [if_pos (by rfl)]
            refine val_wp 47 (v := ?_) rfl ?_ ?_
            rotate_left
            · (go_simp; try with_reducible rfl)
            refine hK.out _ _ (by first | exact b22d | assumption) ?_
            clear hK K
            intro hHeld2
            clear hHeld
            have hHeld := hHeld2
            clear hHeld2
            simp only [Act.put, List.setIfInBounds_toArray, List.set_cons_zero, List.set_cons_succ]
            refine val_at (i := 6) 52 (v := ?_) rfl rfl (by kernel_rfl) (by rfl) ?_ ?_ ?_
            rotate_left
            · (go_simp; try with_reducible rfl)
            · (first | exact b22d | assumption)
            intro hHeld2
            clear hHeld
            have hHeld := hHeld2
            clear hHeld2
            simp only [Act.put, List.setIfInBounds_toArray, List.set_cons_zero, List.set_cons_succ]
            refine take_at (i := 7) 53 (v := ?_) rfl rfl (by kernel_rfl) (by kernel_rfl) (by kernel_rfl) (fun _ _ _ h => h) (by rfl) ?_ hHeld ?_
            rotate_left
            · (intro w hSw; (try dsimp only at hSw); go_simp; try with_reducible rfl)
            simp only [Act.put, List.setIfInBounds_toArray, List.set_cons_zero, List.set_cons_succ]
            refine take_at (i := 8) 54 (v := ?_) rfl rfl (by kernel_rfl) (by kernel_rfl) (by kernel_rfl) (fun _ _ _ h => h) (by rfl) ?_ hHeld ?_
            rotate_left
            · (intro w hSw; (try dsimp only at hSw); go_simp; try with_reducible rfl)
            simp only [Act.put, List.setIfInBounds_toArray, List.set_cons_zero, List.set_cons_succ]
            refine take_at (i := 9) 55 (v := ?_) rfl rfl (by kernel_rfl) (by kernel_rfl) (by kernel_rfl) (fun _ _ _ h => h) (by rfl) ?_ hHeld ?_
            rotate_left
            · (intro w hSw; (try dsimp only at hSw); go_simp; try with_reducible rfl)
            simp only [Act.put, List.setIfInBounds_toArray, List.set_cons_zero, List.set_cons_succ]
            refine run_at (i := 10) rfl (by kernel_rfl) (by rfl) (fun K hK => ?_)
            simp only [List.getElem_toArray, List.getElem_cons_zero, List.getElem_cons_succ]
            go_simp
            first | (go_at_call 20; refine (take_d i _ hd2d).mono ?_; rintro e w3 ⟨v3, rfl, hown3, ⟨a3, c3, hd3⟩, hg3⟩; have hg23 := hgd.trans' hg3; rw [HB.out] at hown3 hd3; obtain ⟨av3, cv3, hv3, -, -, -, hrv3, -⟩ := hown3.val; subst hv3; have hcx3 := conv_rd' (hrv.grown hg23 hvq) _ cv rfl; have hcy3 := conv_rd' hrv3 _ cv3 rfl; have b23 : w3.cell? ⟨w.heap.size, 2, none⟩ = some (.int .i64 i) := hg23.cell b22 (by simp; omega)) | (go_at_call 18; refine (spoils_n 0 av _ cv bs rfl w3 ((hown2.grown hg23 (own_ne hvq)).base (Nat.zero_le _)) hbl2 (Nat.zero_le _)).mono ?_; rintro e w4 ⟨rfl, hg4⟩; have b24 : w4.cell? ⟨w.heap.size, 2, none⟩ = some (.int .i64 i) := hg4.cell b23 (fun e => by obtain ⟨a, ha, hab⟩ := own_some e.symm; have hab2 : a.block = w.heap.size := hab; have := hblk a ha; omega))
            go_wp2_with fail
            refine hK.out _ _ (by first | exact b22d | assumption) ?_
            clear hK K
            intro hHeld2
            clear hHeld
            have hHeld := hHeld2
            clear hHeld2
            try simp only [Act.put, List.setIfInBounds_toArray, List.set_cons_zero, List.set_cons_succ]
            refine take_at (i := 11) 57 (v := ?_) rfl rfl (by kernel_rfl) (by kernel_rfl) (by kernel_rfl) (fun _ _ _ h => h) (by rfl) ?_ hHeld ?_
            rotate_left
            · (intro w hSw; (try dsimp only at hSw); go_simp; try with_reducible rfl)
            simp only [Act.put, List.setIfInBounds_toArray, List.set_cons_zero, List.set_cons_succ]
            refine take_at (i := 12) 6 (v := ?_) rfl rfl (by kernel_rfl) (by kernel_rfl) (by kernel_rfl) (fun _ _ _ h => h) (by rfl) ?_ hHeld ?_
            rotate_left
            · (intro w hSw; (try dsimp only at hSw); go_simp; try with_reducible rfl)
            simp only [Act.put, List.setIfInBounds_toArray, List.set_cons_zero, List.set_cons_succ]
            refine wpAnyH_done (by kernel_rfl) ?_ _
            refine NoPanic.normal ?_
          rotate_left 1
          refine AllReadyH.cons (o := _) rfl (fun K hK => ?_) AllReadyH.nil
          focus
            rw [if_pos (by rfl)]
            refine val_wp 52 (v := ?_) rfl ?_ ?_
            rotate_left
            · (go_simp; try with_reducible rfl)
            refine hK.out _ _ (by first | exact b22d | assumption) ?_
            clear hK K
            intro hHeld2
            clear hHeld
            have hHeld := hHeld2
            clear hHeld2
            simp only [Act.put, List.setIfInBounds_toArray, List.set_cons_zero, List.set_cons_succ]
            refine val_at (i := 1) 47 (v := ?_) rfl rfl (by kernel_rfl) (by rfl) ?_ ?_ ?_
            rotate_left
            · (go_simp; try with_reducible rfl)
            · (first | exact b22d | assumption)
            intro hHeld2
            clear hHeld
            have hHeld := hHeld2
            clear hHeld2
            simp only [Act.put, List.setIfInBounds_toArray, List.set_cons_zero, List.set_cons_succ]
            refine take_at (i := 7) 53 (v := ?_) rfl rfl (by kernel_rfl) (by kernel_rfl) (by kernel_rfl) (fun _ _ _ h => h) (by rfl) ?_ hHeld ?_
            rotate_left
            · (intro w hSw; (try dsimp only at hSw); go_simp; try with_reducible rfl)
            simp only [Act.put, List.setIfInBounds_toArray, List.set_cons_zero, List.set_cons_succ]
            refine take_at (i := 8) 54 (v := ?_) rfl rfl (by kernel_rfl) (by kernel_rfl) (by kernel_rfl) (fun _ _ _ h => h) (by rfl) ?_ hHeld ?_
            rotate_left
            · (intro w hSw; (try dsimp only at hSw); go_simp; try with_reducible rfl)
            simp only [Act.put, List.setIfInBounds_toArray, List.set_cons_zero, List.set_cons_succ]
            refine take_at (i := 9) 55 (v := ?_) rfl rfl (by kernel_rfl) (by kernel_rfl) (by kernel_rfl) (fun _ _ _ h => h) (by rfl) ?_ hHeld ?_
            rotate_left
            · (intro w hSw; (try dsimp only at hSw); go_simp; try with_reducible rfl)
            simp only [Act.put, List.setIfInBounds_toArray, List.set_cons_zero, List.set_cons_succ]
            refine run_at (i := 10) rfl (by kernel_rfl) (by rfl) (fun K hK => ?_)
            simp only [List.getElem_toArray, List.getElem_cons_zero, List.getElem_cons_succ]
            go_simp
            first | (go_at_call 20; refine (take_d i _ hd2d).mono ?_; rintro e w3 ⟨v3, rfl, hown3, ⟨a3, c3, hd3⟩, hg3⟩; have hg23 := hgd.trans' hg3; rw [HB.out] at hown3 hd3; obtain ⟨av3, cv3, hv3, -, -, -, hrv3, -⟩ := hown3.val; subst hv3; have hcx3 := conv_rd' (hrv.grown hg23 hvq) _ cv rfl; have hcy3 := conv_rd' hrv3 _ cv3 rfl; have b23 : w3.cell? ⟨w.heap.size, 2, none⟩ = some (.int .i64 i) := hg23.cell b22 (by simp; omega)) | (go_at_call 18; refine (spoils_n 0 av _ cv bs rfl w3 ((hown2.grown hg23 (own_ne hvq)).base (Nat.zero_le _)) hbl2 (Nat.zero_le _)).mono ?_; rintro e w4 ⟨rfl, hg4⟩; have b24 : w4.cell? ⟨w.heap.size, 2, none⟩ = some (.int .i64 i) := hg4.cell b23 (fun e => by obtain ⟨a, ha, hab⟩ := own_some e.symm; have hab2 : a.block = w.heap.size := hab; have := hblk a ha; omega))
            go_wp2_with fail
            refine hK.out _ _ (by first | exact b22d | assumption) ?_
            clear hK K
            intro hHeld2
            clear hHeld
            have hHeld := hHeld2
            clear hHeld2
            try simp only [Act.put, List.setIfInBounds_toArray, List.set_cons_zero, List.set_cons_succ]
            refine take_at (i := 11) 57 (v := ?_) rfl rfl (by kernel_rfl) (by kernel_rfl) (by kernel_rfl) (fun _ _ _ h => h) (by rfl) ?_ hHeld ?_
            rotate_left
            · (intro w hSw; (try dsimp only at hSw); go_simp; try with_reducible rfl)
            simp only [Act.put, List.setIfInBounds_toArray, List.set_cons_zero, List.set_cons_succ]
            refine take_at (i := 12) 6 (v := ?_) rfl rfl (by kernel_rfl) (by kernel_rfl) (by kernel_rfl) (fun _ _ _ h => h) (by rfl) ?_ hHeld ?_
            rotate_left
            · (intro w hSw; (try dsimp only at hSw); go_simp; try with_reducible rfl)
            simp only [Act.put, List.setIfInBounds_toArray, List.set_cons_zero, List.set_cons_succ]
            refine wpAnyH_done (by kernel_rfl) ?_ _
            refine NoPanic.normal ?_
        all_goals
          go_wp2
          go_ret
          refine ⟨rfl, _, _, (h1.mk2 hr2 hg2 hd3 (by rw [List.drop_drop]) hg23).spoil hg4 (fun g hg => ?_)⟩
          obtain ⟨a, ha, hab⟩ := own_some hg
          have h9 := hblk a ha
          exact ⟨by omega, by omega, fun hD => by have := hDw _ hD; omega, by omega, fun a' ha' => by have := h1.ap a' ha'; omega⟩
      · by_cases hk5 : k = 5
        · subst hk5
          clear hk hk2 hk3 b1 hx HI
          go_wp2_with fail
          rw [← hw1]
          clear hw1
          refine (fail_r i w1 h1.r).mono ?_
          rintro e w2 ⟨rfl, hr2, hg2⟩
          obtain ⟨a2, c2, hd2⟩ := h1.d2 hg2
          have b22 : w2.cell? ⟨w.heap.size, 2, none⟩ = some (.int .i64 i) := hg2.cell b2 (by simp; omega)
          go_wp2_with fail
          refine (fail_d i w2 hd2).mono ?_
          rintro e w3 ⟨rfl, hd3, hg3⟩
          go_wp2
          go_ret
          exact ⟨rfl, _, _, h1.mk2 hr2 hg2 hd3 rfl hg3⟩
        · by_cases hk7 : k = 7
          · subst hk7
            clear hk hk2 hk3 hk5 b1 b2 hx HI
            go_wp2_with fail
            rw [← hw1]
            clear hw1
            refine (end_r w1 h1.r).mono ?_
            rintro e w2 ⟨rfl, hr2, hg2⟩
            obtain ⟨a2, c2, hd2⟩ := h1.d2 hg2
            go_wp2_with fail
            refine (num_any _ w2).mono ?_
            rintro e w2' ⟨rfl, hw2⟩
            subst hw2
            go_wp2_with fail
            refine (end_d _ hd2).mono ?_
            rintro e w3 ⟨rfl, hd3, hg3⟩
            go_wp2
            go_ret
            exact ⟨by simp, _, _, h1.mk2 hr2 hg2 hd3 rfl hg3⟩
          · clear b1 b2 hx HI
            go_wp2
            rw [← hw1]
            go_ret
            exact ⟨rfl, _, _, h1⟩
end Go.Proofs.Ytinphflminaijac
