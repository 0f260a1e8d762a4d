import Derived.Test.YtdpkommmkcmifaaRdr3
namespace Go.Proofs.Ytdpkommmkcmifaa
set_option linter.unusedVariables false
set_option linter.unusedSimpArgs false
open Go.RowKit
/-- Reader.Take: what it gives, how far it goes on, the fault then -/
def rTake (n : Int) (ys : List UInt8) (f : Int) : List UInt8 × Nat × Int :=
  if f = 0 then (if n < 0 then ([], 0, 1) else if (ys.length : Int) < n then ([], 0, 10) else (ys.take n.toNat, n.toNat, 0)) else ([], 0, f)
theorem RdrAt.below {w w' : World} {p : Nat} {ao : Option Addr} {cap : Nat} {xs : List UInt8} {pl : Nat} {f : Int} (h : RdrAt w p ao cap xs pl f) (hb : Below w.heap.size w w') : RdrAt w' p ao cap xs pl f :=
  h.grown (gr_below (World.grownBy.refl w none) hb) (by simp) (by simp)
theorem own_setR {w : World} {B : Nat} {v : Value} {xs : List UInt8} (h : Own w B v xs) (p i : Nat) (u : Value) (hp : p < B) : Own (w.setCell ⟨p, i, none⟩ u) B v xs := by
  refine h.grown (Lib.grownBy_setCell w p i u) ?_
  cases hv : v.ownBlock with
  | none => exact .inl rfl
  | some g =>
    right
    have := World.ownsRow.lt h g hv
    simp
    omega
set_option maxRecDepth 20000 in
set_option maxHeartbeats 1600000 in
theorem take_r {p : Nat} {ao : Option Addr} {cap : Nat} {xs : List UInt8} {pl : Nat} {f : Int} (n : Int) (w : World) (h : RdrAt w p ao cap xs pl f) :
    Calls Try.prog 56 #[.pointer (some ⟨p, 0, none⟩), .int .i64 n] w fun e w' => ∃ v, e = .returned v ∧ Own w' w.heap.size v (rTake n (xs.drop pl) f).1 ∧ RdrAt w' p ao cap xs (pl + (rTake n (xs.drop pl) f).2.1) (rTake n (xs.drop pl) f).2.2 ∧ w.grownBy w' (some p) := by
  have hp := h.hp
  have hl := h.hl
  have hc := h.hc
  by_cases hf : f = 0
  · subst hf
    by_cases hn : n < 0
    · have HV : Hid (rTake n (xs.drop pl) 0 = ([], 0, 1)) := by unfold Hid rTake; rw [if_pos rfl, if_pos hn]
      have k4 := h.f3
      have k5 := h.c3
      go_enter Try.func56, Try.ntmps56
      go_wp2_with fail
      refine (err_r w h).mono ?_
      rintro e w1 ⟨rfl, hw1⟩
      subst hw1
      go_wp2
      go_ret
      rw [HV.out]
      exact ⟨_, rfl, World.ownsRow_nil _ _ _ _, h.setF _, gr_set (World.grownBy.refl _ _) _ _⟩
    · obtain ⟨N, rfl⟩ : ∃ N : Nat, n = N := ⟨n.toNat, by omega⟩
      by_cases hlt : xs.length - pl < N
      · have HV : Hid (rTake N (xs.drop pl) 0 = ([], 0, 10)) := by unfold Hid rTake; rw [if_pos rfl, if_neg hn, if_pos (by simp; omega)]
        go_enter Try.func56, Try.ntmps56
        go_wp2_with fail
        refine (err_r w h).mono ?_
        rintro e w1 ⟨rfl, hw1⟩
        subst hw1
        go_wp2_with fail
        refine (left_r w1 h).mono ?_
        rintro e w2 ⟨rfl, q, hw2⟩
        have h2 : RdrAt w2 p ao cap xs pl 0 := by rw [hw2]; exact h.drewN q
        have hg2 : w1.grownBy w2 (some p) := by rw [hw2]; exact gr_drewN (World.grownBy.refl _ _) q
        have k4 := h2.f3
        have k5 := h2.c3
        clear hw2
        go_wp2
        go_ret
        rw [HV.out]
        exact ⟨_, rfl, World.ownsRow_nil _ _ _ _, h2.setF _, gr_set hg2 _ _⟩
      · have HV : Hid (rTake N (xs.drop pl) 0 = ((xs.drop pl).take N, N, 0)) := by unfold Hid rTake; rw [if_pos rfl, if_neg hn, if_neg (by simp; omega)]; rfl
        have hNle : N ≤ xs.length - pl := by omega
        clear hlt hn
        go_enter Try.func56, Try.ntmps56
        go_wp2_with fail
        refine (err_r w h).mono ?_
        rintro e w1 ⟨rfl, hw1⟩
        subst hw1
        go_wp2_with fail
        refine (left_r w1 h).mono ?_
        rintro e w2 ⟨rfl, q, hw2⟩
        have h2 : RdrAt w2 p ao cap xs pl 0 := by rw [hw2]; exact h.drewN q
        have hg2 : w1.grownBy w2 (some p) := by rw [hw2]; exact gr_drewN (World.grownBy.refl _ _) q
        have hz12 : w1.heap.size ≤ w2.heap.size := hg2.size
        clear hw2
        have hdec : decide (((xs.length - pl : Nat) : Int) < (N : Int)) = false := by simp; omega
        have c1 := h2.c1
        have c2 := h2.c2
        have hr := h2.rd
        have hpl1 : p < w1.heap.size := World.block_lt_of_cell? w1 _ h.c2
        rcases h2.sp with hao | ⟨b, o, hao⟩
        · have hcap := h2.hn hao
          subst hao
          subst hcap
          obtain rfl : xs = [] := List.eq_nil_of_length_eq_zero (by omega)
          simp only [List.length_nil, Nat.le_zero, Nat.zero_sub] at hp hNle
          subst hp
          subst hNle
          have hrt : Rd w2 none [] := Rd.nil _ _
          have hw : IntKind.i64.wrap 0 = 0 := by decide
          have hb3' : (∀ {u : World}, Below w2.heap.size w2 u → u.cell? ⟨p, 1, none⟩ = some (.slice none 0 0)) ∧ (∀ {u : World}, Below w2.heap.size w2 u → u.cell? ⟨p, 2, none⟩ = some (.int .i64 0)) := ⟨fun hu => (h2.below hu).c1, fun hu => (h2.below hu).c2⟩
          clear hr hc hdec
          go_wp2_with fail
          refine wp_region_noPanic ?_
          refine wp_region_held_drew (S := (fun u => Below w2.heap.size w2 u ∧ u.cell? ⟨p, 1, none⟩ = some (.slice none 0 0) ∧ u.cell? ⟨p, 2, none⟩ = some (.int .i64 0))) (by kernel_rfl) (by first | exact ⟨(Below.refl _ _).drew, by simpa using c1, by simpa using c2⟩ | assumption) (fun hHeld => ?_)
          refine take_at (i := 0) 21 (v := ?_) rfl rfl (by kernel_rfl) (by kernel_rfl) (by kernel_rfl) (fun _ _ _ h => h) (by rfl) ?_ hHeld ?_
          rotate_left
          · (intro w hSw; (try dsimp only at hSw); go_simp; try with_reducible rfl)
          simp only [Act.put, List.setIfInBounds_toArray, List.set_cons_zero, List.set_cons_succ]
          refine take_at (i := 1) 22 (v := ?_) rfl rfl (by kernel_rfl) (by kernel_rfl) (by kernel_rfl) (fun _ _ _ h => h) (by rfl) ?_ hHeld ?_
          rotate_left
          · (intro w hSw; (try dsimp only at hSw); go_simp; try with_reducible rfl)
          simp only [Act.put, List.setIfInBounds_toArray, List.set_cons_zero, List.set_cons_succ]
          refine take_at (i := 2) 23 (v := ?_) rfl rfl (by kernel_rfl) (by kernel_rfl) (by kernel_rfl) (fun _ _ _ h => h) (by rfl) ?_ hHeld ?_
          rotate_left
          · (intro w hSw; (try dsimp only at hSw); go_simp; try with_reducible rfl)
          simp only [Act.put, List.setIfInBounds_toArray, List.set_cons_zero, List.set_cons_succ]
          refine take_at (i := 3) 24 (v := ?_) rfl rfl (by kernel_rfl) (by kernel_rfl) (by kernel_rfl) (fun _ _ _ h => h) (by rfl) ?_ hHeld ?_
          rotate_left
          · (intro w hSw; (try dsimp only at hSw); go_simp; try with_reducible rfl)
          simp only [Act.put, List.setIfInBounds_toArray, List.set_cons_zero, List.set_cons_succ]
          refine take_at (i := 4) 25 (v := ?_) rfl rfl (by kernel_rfl) (by kernel_rfl) (by kernel_rfl) (fun _ _ _ h => h) (by rfl) ?_ hHeld ?_
          rotate_left
          · (intro w hSw; (try dsimp only at hSw); go_simp; try with_reducible rfl)
          simp only [Act.put, List.setIfInBounds_toArray, List.set_cons_zero, List.set_cons_succ]
          refine take_at (i := 5) 26 (v := ?_) rfl rfl (by kernel_rfl) (by kernel_rfl) (by kernel_rfl) (fun _ _ _ h => h) (by rfl) ?_ hHeld ?_
          rotate_left
          · (intro w hSw; (try dsimp only at hSw); go_simp; try with_reducible rfl)
          simp only [Act.put, List.setIfInBounds_toArray, List.set_cons_zero, List.set_cons_succ]
          refine take_at (i := 6) 27 (v := ?_) rfl rfl (by kernel_rfl) (by kernel_rfl) (by kernel_rfl) (fun _ _ _ h => h) (by rfl) ?_ hHeld ?_
          rotate_left
          · (intro w hSw; (try dsimp only at hSw); go_simp; try with_reducible rfl)
          simp only [Act.put, List.setIfInBounds_toArray, List.set_cons_zero, List.set_cons_succ]
          refine take_at (i := 7) 28 (v := ?_) rfl rfl (by kernel_rfl) (by kernel_rfl) (by kernel_rfl) (fun _ _ _ h => h) (by rfl) ?_ hHeld ?_
          rotate_left
          · (intro w hSw; (try dsimp only at hSw); go_simp; try with_reducible rfl)
          simp only [Act.put, List.setIfInBounds_toArray, List.set_cons_zero, List.set_cons_succ]
          refine take_at (i := 8) 29 (v := ?_) rfl rfl (by kernel_rfl) (by kernel_rfl) (by kernel_rfl) (fun _ _ _ h => h) (by rfl) ?_ hHeld ?_
          rotate_left
          · (intro w hSw; (try dsimp only at hSw); go_simp; try with_reducible rfl)
          simp only [Act.put, List.setIfInBounds_toArray, List.set_cons_zero, List.set_cons_succ]
          refine take_at (i := 9) 30 (v := ?_) rfl rfl (by kernel_rfl) (by kernel_rfl) (by kernel_rfl) (fun _ _ _ h => h) (by rfl) ?_ hHeld ?_
          rotate_left
          · (intro w hSw; (try dsimp only at hSw); go_simp; try with_reducible rfl)
          simp only [Act.put, List.setIfInBounds_toArray, List.set_cons_zero, List.set_cons_succ]
          refine take_at (i := 10) 31 (v := ?_) rfl rfl (by kernel_rfl) (by kernel_rfl) (by kernel_rfl) (fun _ _ _ h => h) (by rfl) ?_ hHeld ?_
          rotate_left
          · (intro w hSw; (try dsimp only at hSw); go_simp; try with_reducible rfl)
          simp only [Act.put, List.setIfInBounds_toArray, List.set_cons_zero, List.set_cons_succ]
          refine take_at (i := 11) 32 (v := ?_) rfl rfl (by kernel_rfl) (by kernel_rfl) (by kernel_rfl) (fun _ _ _ h => h) (by rfl) ?_ hHeld ?_
          rotate_left
          · (intro w hSw; (try dsimp only at hSw); go_simp; try with_reducible rfl)
          simp only [Act.put, List.setIfInBounds_toArray, List.set_cons_zero, List.set_cons_succ]
          refine take_at (i := 12) 33 (v := ?_) rfl rfl (by kernel_rfl) (by kernel_rfl) (by kernel_rfl) (fun _ _ _ h => h) (by rfl) ?_ hHeld ?_
          rotate_left
          · (intro w hSw; (try dsimp only at hSw); go_simp; try with_reducible rfl)
          simp only [Act.put, List.setIfInBounds_toArray, List.set_cons_zero, List.set_cons_succ]
          refine take_at (i := 13) 34 (v := ?_) rfl rfl (by kernel_rfl) (by kernel_rfl) (by kernel_rfl) (fun _ _ _ h => h) (by rfl) ?_ hHeld ?_
          rotate_left
          · (intro w hSw; (try dsimp only at hSw); go_simp; try with_reducible rfl)
          simp only [Act.put, List.setIfInBounds_toArray, List.set_cons_zero, List.set_cons_succ]
          refine val_at (i := 14) 35 (v := ?_) rfl rfl (by kernel_rfl) (by rfl) ?_ ?_ ?_
          rotate_left
          · (go_simp; try with_reducible rfl)
          · (first | exact ⟨(Below.refl _ _).drew, by simpa using c1, by simpa using c2⟩ | assumption)
          intro hHeld2
          clear hHeld
          have hHeld := hHeld2
          clear hHeld2
          simp only [Act.put, List.setIfInBounds_toArray, List.set_cons_zero, List.set_cons_succ]
          refine run_at (i := 15) rfl (by kernel_rfl) (by rfl) (fun K hK => ?_)
          simp only [List.getElem_toArray, List.getElem_cons_zero, List.getElem_cons_succ]
          go_simp
          (go_at_call 35; refine (clone_n _ 0 0 [] rfl _ (hrt.below (Below.refl _ _).drew) (fun h => by rfl) (by omega)).mono ?_; rintro e w3 ⟨v3, rfl, hown3, hb3⟩; have hS3 := below_next (B := w2) (Below.refl _ _).drew hb3; have hS3' : Below w2.heap.size w2 w3 ∧ w3.cell? ⟨p, 1, none⟩ = some (.slice none 0 0) ∧ w3.cell? ⟨p, 2, none⟩ = some (.int .i64 0) := ⟨hS3, hb3'.1 hS3, hb3'.2 hS3⟩)
          go_wp2_with fail
          refine hK.out _ _ (by first | exact ⟨(Below.refl _ _).drew, by simpa using c1, by simpa using c2⟩ | assumption) ?_
          clear hK K
          intro hHeld2
          clear hHeld
          have hHeld := hHeld2
          clear hHeld2
          try simp only [Act.put, List.setIfInBounds_toArray, List.set_cons_zero, List.set_cons_succ]
          refine take_at (i := 16) 5 (v := ?_) rfl rfl (by kernel_rfl) (by kernel_rfl) (by kernel_rfl) (fun _ _ _ h => h) (by rfl) ?_ hHeld ?_
          rotate_left
          · (intro w hSw; (try dsimp only at hSw); go_simp; try with_reducible rfl)
          simp only [Act.put, List.setIfInBounds_toArray, List.set_cons_zero, List.set_cons_succ]
          refine wpAnyH_done (by kernel_rfl) ?_ _
          refine NoPanic.normal ?_
          have h3 := h2.below hS3
          have c23 := h3.c2
          have f23 := h3.f2
          have hpl2 : p < w2.heap.size := World.block_lt_of_cell? w2 _ c2
          have hown3' : Own w3 w1.heap.size v3 _ := hown3.base (by simpa using hz12)
          go_wp2
          go_ret
          rw [HV.out]
          exact ⟨_, rfl, own_setR hown3' p _ _ hpl1, h3.setP _ 0 (by go_num) (by simp), gr_set (gr_below hg2 hS3) _ _⟩
        · subst hao
          by_cases hcp : cap = pl
          · have hxl : xs.length = pl := by omega
            obtain rfl : N = 0 := by omega
            rw [hxl, hcp] at c1
            have hrt : Rd w2 (some ⟨b, o, none⟩) [] := Rd.nil _ _
            have hb3' : (∀ {u : World}, Below w2.heap.size w2 u → u.cell? ⟨p, 1, none⟩ = some (.slice (some ⟨b, o, none⟩) pl pl)) ∧ (∀ {u : World}, Below w2.heap.size w2 u → u.cell? ⟨p, 2, none⟩ = some (.int .i64 pl)) := ⟨fun hu => by have := (h2.below hu).c1; rwa [hxl, hcp] at this, fun hu => (h2.below hu).c2⟩
            have hw : IntKind.i64.wrap (pl : Int) = (pl : Int) := by rw [IntKind.wrap_i64]; omega
            have HXL : Hid (xs.length = pl) := hxl
            have HNL : Hid (0 ≤ xs.length - pl) := hNle
            rw [hxl, Nat.sub_self]
            clear hr hc hdec hcp hxl hNle hp hl
            go_wp2_with fail
            refine wp_region_noPanic ?_
            refine wp_region_held_drew (S := (fun u => Below w2.heap.size w2 u ∧ u.cell? ⟨p, 1, none⟩ = some (.slice (some ⟨b, o, none⟩) pl pl) ∧ u.cell? ⟨p, 2, none⟩ = some (.int .i64 pl))) (by kernel_rfl) (by first | exact ⟨(Below.refl _ _).drew, by simpa using c1, by simpa using c2⟩ | assumption) (fun hHeld => ?_)
            refine take_at (i := 0) 21 (v := ?_) rfl rfl (by kernel_rfl) (by kernel_rfl) (by kernel_rfl) (fun _ _ _ h => h) (by rfl) ?_ hHeld ?_
            rotate_left
            · (intro w hSw; (try dsimp only at hSw); go_simp; try with_reducible rfl)
            simp only [Act.put, List.setIfInBounds_toArray, List.set_cons_zero, List.set_cons_succ]
            refine take_at (i := 1) 22 (v := ?_) rfl rfl (by kernel_rfl) (by kernel_rfl) (by kernel_rfl) (fun _ _ _ h => h) (by rfl) ?_ hHeld ?_
            rotate_left
            · (intro w hSw; (try dsimp only at hSw); go_simp; try with_reducible rfl)
            simp only [Act.put, List.setIfInBounds_toArray, List.set_cons_zero, List.set_cons_succ]
            refine take_at (i := 2) 23 (v := ?_) rfl rfl (by kernel_rfl) (by kernel_rfl) (by kernel_rfl) (fun _ _ _ h => h) (by rfl) ?_ hHeld ?_
            rotate_left
            · (intro w hSw; (try dsimp only at hSw); go_simp; try with_reducible rfl)
            simp only [Act.put, List.setIfInBounds_toArray, List.set_cons_zero, List.set_cons_succ]
            refine take_at (i := 3) 24 (v := ?_) rfl rfl (by kernel_rfl) (by kernel_rfl) (by kernel_rfl) (fun _ _ _ h => h) (by rfl) ?_ hHeld ?_
            rotate_left
            · (intro w hSw; (try dsimp only at hSw); go_simp; try with_reducible rfl)
            simp only [Act.put, List.setIfInBounds_toArray, List.set_cons_zero, List.set_cons_succ]
            refine take_at (i := 4) 25 (v := ?_) rfl rfl (by kernel_rfl) (by kernel_rfl) (by kernel_rfl) (fun _ _ _ h => h) (by rfl) ?_ hHeld ?_
            rotate_left
            · (intro w hSw; (try dsimp only at hSw); go_simp; try with_reducible rfl)
            simp only [Act.put, List.setIfInBounds_toArray, List.set_cons_zero, List.set_cons_succ]
            refine take_at (i := 5) 26 (v := ?_) rfl rfl (by kernel_rfl) (by kernel_rfl) (by kernel_rfl) (fun _ _ _ h => h) (by rfl) ?_ hHeld ?_
            rotate_left
            · (intro w hSw; (try dsimp only at hSw); go_simp; try with_reducible rfl)
            simp only [Act.put, List.setIfInBounds_toArray, List.set_cons_zero, List.set_cons_succ]
            refine take_at (i := 6) 27 (v := ?_) rfl rfl (by kernel_rfl) (by kernel_rfl) (by kernel_rfl) (fun _ _ _ h => h) (by rfl) ?_ hHeld ?_
            rotate_left
            · (intro w hSw; (try dsimp only at hSw); go_simp; try with_reducible rfl)
            simp only [Act.put, List.setIfInBounds_toArray, List.set_cons_zero, List.set_cons_succ]
            refine take_at (i := 7) 28 (v := ?_) rfl rfl (by kernel_rfl) (by kernel_rfl) (by kernel_rfl) (fun _ _ _ h => h) (by rfl) ?_ hHeld ?_
            rotate_left
            · (intro w hSw; (try dsimp only at hSw); go_simp; try with_reducible rfl)
            simp only [Act.put, List.setIfInBounds_toArray, List.set_cons_zero, List.set_cons_succ]
            refine take_at (i := 8) 29 (v := ?_) rfl rfl (by kernel_rfl) (by kernel_rfl) (by kernel_rfl) (fun _ _ _ h => h) (by rfl) ?_ hHeld ?_
            rotate_left
            · (intro w hSw; (try dsimp only at hSw); go_simp; try with_reducible rfl)
            simp only [Act.put, List.setIfInBounds_toArray, List.set_cons_zero, List.set_cons_succ]
            refine take_at (i := 9) 30 (v := ?_) rfl rfl (by kernel_rfl) (by kernel_rfl) (by kernel_rfl) (fun _ _ _ h => h) (by rfl) ?_ hHeld ?_
            rotate_left
            · (intro w hSw; (try dsimp only at hSw); go_simp; try with_reducible rfl)
            simp only [Act.put, List.setIfInBounds_toArray, List.set_cons_zero, List.set_cons_succ]
            refine take_at (i := 10) 31 (v := ?_) rfl rfl (by kernel_rfl) (by kernel_rfl) (by kernel_rfl) (fun _ _ _ h => h) (by rfl) ?_ hHeld ?_
            rotate_left
            · (intro w hSw; (try dsimp only at hSw); go_simp; try with_reducible rfl)
            simp only [Act.put, List.setIfInBounds_toArray, List.set_cons_zero, List.set_cons_succ]
            refine take_at (i := 11) 32 (v := ?_) rfl rfl (by kernel_rfl) (by kernel_rfl) (by kernel_rfl) (fun _ _ _ h => h) (by rfl) ?_ hHeld ?_
            rotate_left
            · (intro w hSw; (try dsimp only at hSw); go_simp; try with_reducible rfl)
            simp only [Act.put, List.setIfInBounds_toArray, List.set_cons_zero, List.set_cons_succ]
            refine take_at (i := 12) 33 (v := ?_) rfl rfl (by kernel_rfl) (by kernel_rfl) (by kernel_rfl) (fun _ _ _ h => h) (by rfl) ?_ hHeld ?_
            rotate_left
            · (intro w hSw; (try dsimp only at hSw); go_simp; try with_reducible rfl)
            simp only [Act.put, List.setIfInBounds_toArray, List.set_cons_zero, List.set_cons_succ]
            refine take_at (i := 13) 34 (v := ?_) rfl rfl (by kernel_rfl) (by kernel_rfl) (by kernel_rfl) (fun _ _ _ h => h) (by rfl) ?_ hHeld ?_
            rotate_left
            · (intro w hSw; (try dsimp only at hSw); go_simp; try with_reducible rfl)
            simp only [Act.put, List.setIfInBounds_toArray, List.set_cons_zero, List.set_cons_succ]
            refine val_at (i := 14) 35 (v := ?_) rfl rfl (by kernel_rfl) (by rfl) ?_ ?_ ?_
            rotate_left
            · (go_simp; try with_reducible rfl)
            · (first | exact ⟨(Below.refl _ _).drew, by simpa using c1, by simpa using c2⟩ | assumption)
            intro hHeld2
            clear hHeld
            have hHeld := hHeld2
            clear hHeld2
            simp only [Act.put, List.setIfInBounds_toArray, List.set_cons_zero, List.set_cons_succ]
            refine run_at (i := 15) rfl (by kernel_rfl) (by rfl) (fun K hK => ?_)
            simp only [List.getElem_toArray, List.getElem_cons_zero, List.getElem_cons_succ]
            go_simp
            (go_at_call 35; refine (clone_n _ 0 0 [] rfl _ (hrt.below (Below.refl _ _).drew) (fun h => by cases h) (by omega)).mono ?_; rintro e w3 ⟨v3, rfl, hown3, hb3⟩; have hS3 := below_next (B := w2) (Below.refl _ _).drew hb3; have hS3' : Below w2.heap.size w2 w3 ∧ w3.cell? ⟨p, 1, none⟩ = some (.slice (some ⟨b, o, none⟩) pl pl) ∧ w3.cell? ⟨p, 2, none⟩ = some (.int .i64 pl) := ⟨hS3, hb3'.1 hS3, hb3'.2 hS3⟩)
            go_wp2_with fail
            refine hK.out _ _ (by first | exact ⟨(Below.refl _ _).drew, by simpa using c1, by simpa using c2⟩ | assumption) ?_
            clear hK K
            intro hHeld2
            clear hHeld
            have hHeld := hHeld2
            clear hHeld2
            try simp only [Act.put, List.setIfInBounds_toArray, List.set_cons_zero, List.set_cons_succ]
            refine take_at (i := 16) 5 (v := ?_) rfl rfl (by kernel_rfl) (by kernel_rfl) (by kernel_rfl) (fun _ _ _ h => h) (by rfl) ?_ hHeld ?_
            rotate_left
            · (intro w hSw; (try dsimp only at hSw); go_simp; try with_reducible rfl)
            simp only [Act.put, List.setIfInBounds_toArray, List.set_cons_zero, List.set_cons_succ]
            refine wpAnyH_done (by kernel_rfl) ?_ _
            refine NoPanic.normal ?_
            have h3 := h2.below hS3
            have c23 := h3.c2
            have f23 := h3.f2
            have hpl2 : p < w2.heap.size := World.block_lt_of_cell? w2 _ c2
            have hown3' : Own w3 w1.heap.size v3 _ := hown3.base (by simpa using hz12)
            go_wp2
            go_ret
            rw [HV.out]
            exact ⟨_, rfl, own_setR hown3' p _ _ hpl1, h3.setP _ pl (by go_num) (by rw [HXL.out]; exact Nat.le_refl _), gr_set (gr_below hg2 hS3) _ _⟩
          · have hrt : Rd w2 (some ⟨b, o + pl, none⟩) ((xs.drop pl).take N) := (hr.drop pl).take N
            obtain ⟨M, hM⟩ : ∃ M : Nat, M = pl + N := ⟨_, rfl⟩
            have hw : IntKind.i64.wrap ((pl : Int) + (N : Int)) = (M : Int) := by rw [IntKind.wrap_i64]; omega
            have HLEN : Hid (M - pl = ((xs.drop pl).take N).length) := by unfold Hid; simp; omega
            have HM : Hid (M = pl + N) := hM
            have hc' : pl ≤ cap := by omega
            have hcN : M ≤ cap := by omega
            have hcM : pl ≤ M := by omega
            have hcN2 : M ≤ xs.length := by omega
            clear hr hp hc hM
            have hb3' : (∀ {u : World}, Below w2.heap.size w2 u → u.cell? ⟨p, 1, none⟩ = some (.slice (some ⟨b, o, none⟩) xs.length cap)) ∧ (∀ {u : World}, Below w2.heap.size w2 u → u.cell? ⟨p, 2, none⟩ = some (.int .i64 pl)) := ⟨fun hu => (h2.below hu).c1, fun hu => (h2.below hu).c2⟩
            go_wp2_with fail
            refine wp_region_noPanic ?_
            refine wp_region_held_drew (S := (fun u => Below w2.heap.size w2 u ∧ u.cell? ⟨p, 1, none⟩ = some (.slice (some ⟨b, o, none⟩) xs.length cap) ∧ u.cell? ⟨p, 2, none⟩ = some (.int .i64 pl))) (by kernel_rfl) (by first | exact ⟨(Below.refl _ _).drew, by simpa using c1, by simpa using c2⟩ | assumption) (fun hHeld => ?_)
            refine take_at (i := 0) 21 (v := ?_) rfl rfl (by kernel_rfl) (by kernel_rfl) (by kernel_rfl) (fun _ _ _ h => h) (by rfl) ?_ hHeld ?_
            rotate_left
            · (intro w hSw; (try dsimp only at hSw); go_simp; try with_reducible rfl)
            simp only [Act.put, List.setIfInBounds_toArray, List.set_cons_zero, List.set_cons_succ]
            refine take_at (i := 1) 22 (v := ?_) rfl rfl (by kernel_rfl) (by kernel_rfl) (by kernel_rfl) (fun _ _ _ h => h) (by rfl) ?_ hHeld ?_
            rotate_left
            · (intro w hSw; (try dsimp only at hSw); go_simp; try with_reducible rfl)
            simp only [Act.put, List.setIfInBounds_toArray, List.set_cons_zero, List.set_cons_succ]
            refine take_at (i := 2) 23 (v := ?_) rfl rfl (by kernel_rfl) (by kernel_rfl) (by kernel_rfl) (fun _ _ _ h => h) (by rfl) ?_ hHeld ?_
            rotate_left
            · (intro w hSw; (try dsimp only at hSw); go_simp; try with_reducible rfl)
            simp only [Act.put, List.setIfInBounds_toArray, List.set_cons_zero, List.set_cons_succ]
            refine take_at (i := 3) 24 (v := ?_) rfl rfl (by kernel_rfl) (by kernel_rfl) (by kernel_rfl) (fun _ _ _ h => h) (by rfl) ?_ hHeld ?_
            rotate_left
            · (intro w hSw; (try dsimp only at hSw); go_simp; try with_reducible rfl)
            simp only [Act.put, List.setIfInBounds_toArray, List.set_cons_zero, List.set_cons_succ]
            refine take_at (i := 4) 25 (v := ?_) rfl rfl (by kernel_rfl) (by kernel_rfl) (by kernel_rfl) (fun _ _ _ h => h) (by rfl) ?_ hHeld ?_
            rotate_left
            · (intro w hSw; (try dsimp only at hSw); go_simp; try with_reducible rfl)
            simp only [Act.put, List.setIfInBounds_toArray, List.set_cons_zero, List.set_cons_succ]
            refine take_at (i := 5) 26 (v := ?_) rfl rfl (by kernel_rfl) (by kernel_rfl) (by kernel_rfl) (fun _ _ _ h => h) (by rfl) ?_ hHeld ?_
            rotate_left
            · (intro w hSw; (try dsimp only at hSw); go_simp; try with_reducible rfl)
            simp only [Act.put, List.setIfInBounds_toArray, List.set_cons_zero, List.set_cons_succ]
            refine take_at (i := 6) 27 (v := ?_) rfl rfl (by kernel_rfl) (by kernel_rfl) (by kernel_rfl) (fun _ _ _ h => h) (by rfl) ?_ hHeld ?_
            rotate_left
            · (intro w hSw; (try dsimp only at hSw); go_simp; try with_reducible rfl)
            simp only [Act.put, List.setIfInBounds_toArray, List.set_cons_zero, List.set_cons_succ]
            refine take_at (i := 7) 28 (v := ?_) rfl rfl (by kernel_rfl) (by kernel_rfl) (by kernel_rfl) (fun _ _ _ h => h) (by rfl) ?_ hHeld ?_
            rotate_left
            · (intro w hSw; (try dsimp only at hSw); go_simp; try with_reducible rfl)
            simp only [Act.put, List.setIfInBounds_toArray, List.set_cons_zero, List.set_cons_succ]
            refine take_at (i := 8) 29 (v := ?_) rfl rfl (by kernel_rfl) (by kernel_rfl) (by kernel_rfl) (fun _ _ _ h => h) (by rfl) ?_ hHeld ?_
            rotate_left
            · (intro w hSw; (try dsimp only at hSw); go_simp; try with_reducible rfl)
            simp only [Act.put, List.setIfInBounds_toArray, List.set_cons_zero, List.set_cons_succ]
            refine take_at (i := 9) 30 (v := ?_) rfl rfl (by kernel_rfl) (by kernel_rfl) (by kernel_rfl) (fun _ _ _ h => h) (by rfl) ?_ hHeld ?_
            rotate_left
            · (intro w hSw; (try dsimp only at hSw); go_simp; try with_reducible rfl)
            simp only [Act.put, List.setIfInBounds_toArray, List.set_cons_zero, List.set_cons_succ]
            refine take_at (i := 10) 31 (v := ?_) rfl rfl (by kernel_rfl) (by kernel_rfl) (by kernel_rfl) (fun _ _ _ h => h) (by rfl) ?_ hHeld ?_
            rotate_left
            · (intro w hSw; (try dsimp only at hSw); go_simp; try with_reducible rfl)
            simp only [Act.put, List.setIfInBounds_toArray, List.set_cons_zero, List.set_cons_succ]
            refine take_at (i := 11) 32 (v := ?_) rfl rfl (by kernel_rfl) (by kernel_rfl) (by kernel_rfl) (fun _ _ _ h => h) (by rfl) ?_ hHeld ?_
            rotate_left
            · (intro w hSw; (try dsimp only at hSw); go_simp; try with_reducible rfl)
            simp only [Act.put, List.setIfInBounds_toArray, List.set_cons_zero, List.set_cons_succ]
            refine take_at (i := 12) 33 (v := ?_) rfl rfl (by kernel_rfl) (by kernel_rfl) (by kernel_rfl) (fun _ _ _ h => h) (by rfl) ?_ hHeld ?_
            rotate_left
            · (intro w hSw; (try dsimp only at hSw); go_simp; try with_reducible rfl)
            simp only [Act.put, List.setIfInBounds_toArray, List.set_cons_zero, List.set_cons_succ]
            refine take_at (i := 13) 34 (v := ?_) rfl rfl (by kernel_rfl) (by kernel_rfl) (by kernel_rfl) (fun _ _ _ h => h) (by rfl) ?_ hHeld ?_
            rotate_left
            · (intro w hSw; (try dsimp only at hSw); go_simp; try with_reducible rfl)
            simp only [Act.put, List.setIfInBounds_toArray, List.set_cons_zero, List.set_cons_succ]
            refine val_at (i := 14) 35 (v := ?_) rfl rfl (by kernel_rfl) (by rfl) ?_ ?_ ?_
            rotate_left
            · (go_simp; try with_reducible rfl)
            · (first | exact ⟨(Below.refl _ _).drew, by simpa using c1, by simpa using c2⟩ | assumption)
            intro hHeld2
            clear hHeld
            have hHeld := hHeld2
            clear hHeld2
            simp only [Act.put, List.setIfInBounds_toArray, List.set_cons_zero, List.set_cons_succ]
            refine run_at (i := 15) rfl (by kernel_rfl) (by rfl) (fun K hK => ?_)
            simp only [List.getElem_toArray, List.getElem_cons_zero, List.getElem_cons_succ]
            go_simp
            (go_at_call 35; refine (clone_n _ (M - pl) (cap - pl) ((xs.drop pl).take N) HLEN.out _ (hrt.below (Below.refl _ _).drew) (fun h => by cases h) (by omega)).mono ?_; rintro e w3 ⟨v3, rfl, hown3, hb3⟩; have hS3 := below_next (B := w2) (Below.refl _ _).drew hb3; have hS3' : Below w2.heap.size w2 w3 ∧ w3.cell? ⟨p, 1, none⟩ = some (.slice (some ⟨b, o, none⟩) xs.length cap) ∧ w3.cell? ⟨p, 2, none⟩ = some (.int .i64 pl) := ⟨hS3, hb3'.1 hS3, hb3'.2 hS3⟩)
            go_wp2_with fail
            refine hK.out _ _ (by first | exact ⟨(Below.refl _ _).drew, by simpa using c1, by simpa using c2⟩ | assumption) ?_
            clear hK K
            intro hHeld2
            clear hHeld
            have hHeld := hHeld2
            clear hHeld2
            try simp only [Act.put, List.setIfInBounds_toArray, List.set_cons_zero, List.set_cons_succ]
            refine take_at (i := 16) 5 (v := ?_) rfl rfl (by kernel_rfl) (by kernel_rfl) (by kernel_rfl) (fun _ _ _ h => h) (by rfl) ?_ hHeld ?_
            rotate_left
            · (intro w hSw; (try dsimp only at hSw); go_simp; try with_reducible rfl)
            simp only [Act.put, List.setIfInBounds_toArray, List.set_cons_zero, List.set_cons_succ]
            refine wpAnyH_done (by kernel_rfl) ?_ _
            refine NoPanic.normal ?_
            have h3 := h2.below hS3
            have c23 := h3.c2
            have f23 := h3.f2
            have hpl2 : p < w2.heap.size := World.block_lt_of_cell? w2 _ c2
            have hown3' : Own w3 w1.heap.size v3 _ := hown3.base (by simpa using hz12)
            go_wp2
            go_ret
            rw [HV.out]
            exact ⟨_, rfl, own_setR hown3' p _ _ hpl1, h3.setP _ (pl + N) (by have := HM.out; go_num) (by have := HM.out; omega), gr_set (gr_below hg2 hS3) _ _⟩
  · have HV : Hid (rTake n (xs.drop pl) f = ([], 0, f)) := by unfold Hid rTake; rw [if_neg hf]
    go_enter Try.func56, Try.ntmps56
    go_wp2_with fail
    refine (err_r w h).mono ?_
    rintro e w1 ⟨rfl, hw1⟩
    subst hw1
    go_wp2
    go_ret
    rw [HV.out]
    exact ⟨_, rfl, World.ownsRow_nil _ _ _ _, h, World.grownBy.refl _ _⟩
end Go.Proofs.Ytdpkommmkcmifaa
