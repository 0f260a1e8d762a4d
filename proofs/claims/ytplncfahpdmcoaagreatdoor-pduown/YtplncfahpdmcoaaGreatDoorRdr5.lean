import Derived.Test.YtplncfahpdmcoaaGreatDoorRdr2
import Derived.Lib.BufferOwn
namespace Go.Proofs.YtplncfahpdmcoaaGreatDoor
set_option linter.unusedVariables false
set_option linter.unusedSimpArgs false
open Go.RowKit
theorem gr_below {a w w' : World} {row : Option Nat} (h : a.grownBy w row) (hb : Below w.heap.size w w') : a.grownBy w' row := Lib.grownBy_below h hb
theorem gr_drewN {a w : World} {row : Option Nat} (h : a.grownBy w row) (q : Nat) : a.grownBy (w.drewN q) row := gr_below h (below_drewN (Below.refl _ _) q)
theorem gr_set {a w : World} {p : Nat} (h : a.grownBy w (some p)) (i : Nat) (v : Value) : a.grownBy (w.setCell ⟨p, i, none⟩ v) (some p) := Lib.grownBy_setB h i v
theorem ahS_le (m : Nat) (ys : List UInt8) : (ahS m ys).1 < 18446744073709551616 ∧ (ahS m ys).2.1 ≤ ys.length := by
  have h := numS_lt ys
  unfold ahS
  split
  · simp
  · exact ⟨h.1, by omega⟩
/-- Reader.Number: the answer, how far it goes on, the fault then -/
def rNum (m : Nat) (ys : List UInt8) (f : Int) : Nat × Nat × Int :=
  if f = 0 then (if (ahS m ys).2.2 = 0 then ((ahS m ys).1, (ahS m ys).2.1, 0) else (0, 0, ((ahS m ys).2.2 : Nat))) else (0, 0, f)
theorem rNum_le (m : Nat) (ys : List UInt8) (f : Int) : (rNum m ys f).2.1 ≤ ys.length := by
  have h := ahS_le m ys
  unfold rNum
  split
  · split
    · exact h.2
    · exact Nat.zero_le _
  · exact Nat.zero_le _
set_option maxRecDepth 20000 in
set_option maxHeartbeats 800000 in
theorem number_r {p : Nat} {ao : Option Addr} {cap : Nat} {xs : List UInt8} {pl : Nat} {f : Int} (m : Nat) (w : World) (h : RdrAt w p ao cap xs pl f) :
    Calls Tryz.prog 54 #[.pointer (some ⟨p, 0, none⟩), .int .u64 m] w fun e w' => e = .returned (.int .u64 ((rNum m (xs.drop pl) f).1 : Nat)) ∧ RdrAt w' p ao cap xs (pl + (rNum m (xs.drop pl) f).2.1) (rNum m (xs.drop pl) f).2.2 ∧ w.grownBy w' (some p) := by
  by_cases hf : f = 0
  · subst hf
    obtain ⟨N, K, E, hN⟩ : ∃ N K E : Nat, ahS m (xs.drop pl) = (N, K, E) := ⟨_, _, _, rfl⟩
    have hK := (ahS_le m (xs.drop pl)).2
    have hnv : ahV m (xs.drop pl) = .tuple #[.int .u64 N, .int .i64 K, .int .i64 E] := by unfold ahV; rw [hN]
    have HV : Hid (rNum m (xs.drop pl) 0 = if E = 0 then (N, K, 0) else (0, 0, (E : Int))) := by unfold Hid rNum; rw [if_pos rfl, hN]
    rw [hN] at hK
    have hK2 : K ≤ xs.length - pl := by simpa using hK
    clear hN hK
    have hp := h.hp
    have hl := h.hl
    go_enter Tryz.func54, Tryz.ntmps54
    go_wp2_with fail
    refine (err_r w h).mono ?_
    rintro e w1 ⟨rfl, hw1⟩
    subst hw1
    go_wp2_with fail
    refine (ahead_r m w1 h).mono ?_
    rintro e w2 ⟨rfl, q, hw2⟩
    rw [hnv]
    have h2 : RdrAt w2 p ao cap xs pl 0 := by rw [hw2]; exact h.drewN q
    have hg2 : w1.grownBy w2 (some p) := by rw [hw2]; exact gr_drewN (World.grownBy.refl _ _) q
    have k2 := h2.c2
    have k3 := h2.f2
    have k4 := h2.f3
    have k5 := h2.c3
    clear hw2 hnv
    by_cases hE : E = 0
    · subst hE
      have HV2 : Hid (rNum m (xs.drop pl) 0 = (N, K, 0)) := by have e := HV.out; rw [if_pos rfl] at e; exact e
      clear HV
      go_wp2
      go_ret
      rw [HV2.out]
      exact ⟨rfl, h2.setP _ (pl + K) (by go_num) (by omega), gr_set hg2 _ _⟩
    · have HV2 : Hid (rNum m (xs.drop pl) 0 = (0, 0, (E : Int))) := by have e := HV.out; rw [if_neg hE] at e; exact e
      clear HV
      go_wp2
      go_ret
      rw [HV2.out]
      exact ⟨rfl, h2.setF _, gr_set hg2 _ _⟩
  · have HV : Hid (rNum m (xs.drop pl) f = (0, 0, f)) := by unfold Hid rNum; rw [if_neg hf]
    go_enter Tryz.func54, Tryz.ntmps54
    go_wp2_with fail
    refine (err_r w h).mono ?_
    rintro e w1 ⟨rfl, hw1⟩
    subst hw1
    go_wp2
    go_ret
    rw [HV.out]
    exact ⟨rfl, h, World.grownBy.refl _ _⟩
theorem fail_r {p : Nat} {ao : Option Addr} {cap : Nat} {xs : List UInt8} {pl : Nat} {f : Int} (g : Int) (w : World) (h : RdrAt w p ao cap xs pl f) :
    Calls Tryz.prog 57 #[.pointer (some ⟨p, 0, none⟩), .int .i64 g] w fun e w' => e = .returned (.tuple #[]) ∧ RdrAt w' p ao cap xs pl (if f = 0 then g else f) ∧ w.grownBy w' (some p) := by
  have k4 := h.f3
  have k3 := h.c3
  by_cases hf : f = 0
  · rw [if_pos hf]
    subst hf
    go_enter Tryz.func57, Tryz.ntmps57
    go_wp2_with fail
    refine (err_r w h).mono ?_
    rintro e w1 ⟨rfl, hw1⟩
    subst hw1
    go_wp2
    go_end0
    exact ⟨rfl, h.setF _, gr_set (World.grownBy.refl _ _) _ _⟩
  · rw [if_neg hf]
    go_enter Tryz.func57, Tryz.ntmps57
    go_wp2_with fail
    refine (err_r w h).mono ?_
    rintro e w1 ⟨rfl, hw1⟩
    subst hw1
    go_wp2
    go_end0
    exact ⟨rfl, h, World.grownBy.refl _ _⟩
end Go.Proofs.YtplncfahpdmcoaaGreatDoor
namespace Go.Proofs.YtplncfahpdmcoaaGreatDoor
set_option linter.unusedVariables false
set_option linter.unusedSimpArgs false
open Go.RowKit
/-- Reader.Take: what it gives, how far it goes on, the fault then -/
def rTake (n : Int) (ys : List UInt8) (f : Int) : List UInt8 × Nat × Int :=
  if f = 0 then (if n < 0 then ([], 0, 1) else if (ys.length : Int) < n then ([], 0, 10) else (ys.take n.toNat, n.toNat, 0)) else ([], 0, f)
theorem RdrAt.below {w w' : World} {p : Nat} {ao : Option Addr} {cap : Nat} {xs : List UInt8} {pl : Nat} {f : Int} (h : RdrAt w p ao cap xs pl f) (hb : Below w.heap.size w w') : RdrAt w' p ao cap xs pl f :=
  h.grown (gr_below (World.grownBy.refl w none) hb) (by simp) (by simp)
theorem own_setR {w : World} {B : Nat} {v : Value} {xs : List UInt8} (h : Own w B v xs) (p i : Nat) (u : Value) (hp : p < B) : Own (w.setCell ⟨p, i, none⟩ u) B v xs := by
  refine h.grown (Lib.grownBy_setCell w p i u) ?_
  cases hv : v.ownBlock with
  | none => exact .inl rfl
  | some g =>
    right
    have := World.ownsRow.lt h g hv
    simp
    omega
set_option maxRecDepth 20000 in
set_option maxHeartbeats 1600000 in
theorem take_r {p : Nat} {ao : Option Addr} {cap : Nat} {xs : List UInt8} {pl : Nat} {f : Int} (n : Int) (w : World) (h : RdrAt w p ao cap xs pl f) :
    Calls Tryz.prog 106 #[.pointer (some ⟨p, 0, none⟩), .int .i64 n] w fun e w' => ∃ v, e = .returned v ∧ Own w' w.heap.size v (rTake n (xs.drop pl) f).1 ∧ RdrAt w' p ao cap xs (pl + (rTake n (xs.drop pl) f).2.1) (rTake n (xs.drop pl) f).2.2 ∧ w.grownBy w' (some p) := by
  have hp := h.hp
  have hl := h.hl
  have hc := h.hc
  by_cases hf : f = 0
  · subst hf
    by_cases hn : n < 0
    · have HV : Hid (rTake n (xs.drop pl) 0 = ([], 0, 1)) := by unfold Hid rTake; rw [if_pos rfl, if_pos hn]
      have k4 := h.f3
      have k5 := h.c3
      go_enter Tryz.func106, Tryz.ntmps106
      go_wp2_with fail
      refine (err_r w h).mono ?_
      rintro e w1 ⟨rfl, hw1⟩
      subst hw1
      go_wp2
      go_ret
      rw [HV.out]
      exact ⟨_, rfl, World.ownsRow_nil _ _ _ _, h.setF _, gr_set (World.grownBy.refl _ _) _ _⟩
    · obtain ⟨N, rfl⟩ : ∃ N : Nat, n = N := ⟨n.toNat, by omega⟩
      by_cases hlt : xs.length - pl < N
      · have HV : Hid (rTake N (xs.drop pl) 0 = ([], 0, 10)) := by unfold Hid rTake; rw [if_pos rfl, if_neg hn, if_pos (by simp; omega)]
        go_enter Tryz.func106, Tryz.ntmps106
        go_wp2_with fail
        refine (err_r w h).mono ?_
        rintro e w1 ⟨rfl, hw1⟩
        subst hw1
        go_wp2_with fail
        refine (left_r w1 h).mono ?_
        rintro e w2 ⟨rfl, q, hw2⟩
        have h2 : RdrAt w2 p ao cap xs pl 0 := by rw [hw2]; exact h.drewN q
        have hg2 : w1.grownBy w2 (some p) := by rw [hw2]; exact gr_drewN (World.grownBy.refl _ _) q
        have k4 := h2.f3
        have k5 := h2.c3
        clear hw2
        go_wp2
        go_ret
        rw [HV.out]
        exact ⟨_, rfl, World.ownsRow_nil _ _ _ _, h2.setF _, gr_set hg2 _ _⟩
      · have HV : Hid (rTake N (xs.drop pl) 0 = ((xs.drop pl).take N, N, 0)) := by unfold Hid rTake; rw [if_pos rfl, if_neg hn, if_neg (by simp; omega)]; rfl
        have hNle : N ≤ xs.length - pl := by omega
        clear hlt hn
        go_enter Tryz.func106, Tryz.ntmps106
        go_wp2_with fail
        refine (err_r w h).mono ?_
        rintro e w1 ⟨rfl, hw1⟩
        subst hw1
        go_wp2_with fail
        refine (left_r w1 h).mono ?_
        rintro e w2 ⟨rfl, q, hw2⟩
        have h2 : RdrAt w2 p ao cap xs pl 0 := by rw [hw2]; exact h.drewN q
        have hg2 : w1.grownBy w2 (some p) := by rw [hw2]; exact gr_drewN (World.grownBy.refl _ _) q
        have hz12 : w1.heap.size ≤ w2.heap.size := hg2.size
        clear hw2
        have hdec : decide (((xs.length - pl : Nat) : Int) < (N : Int)) = false := by simp; omega
        have c1 := h2.c1
        have c2 := h2.c2
        have hr := h2.rd
        have hpl1 : p < w1.heap.size := World.block_lt_of_cell? w1 _ h.c2
        rcases h2.sp with hao | ⟨b, o, hao⟩
        · have hcap := h2.hn hao
          subst hao
          subst hcap
          obtain rfl : xs = [] := List.eq_nil_of_length_eq_zero (by omega)
          simp only [List.length_nil, Nat.le_zero, Nat.zero_sub] at hp hNle
          subst hp
          subst hNle
          have hrt : Rd w2 none [] := Rd.nil _ _
          have hw : IntKind.i64.wrap 0 = 0 := by decide
          have hb3' : (∀ {u : World}, Below w2.heap.size w2 u → u.cell? ⟨p, 1, none⟩ = some (.slice none 0 0)) ∧ (∀ {u : World}, Below w2.heap.size w2 u → u.cell? ⟨p, 2, none⟩ = some (.int .i64 0)) := ⟨fun hu => (h2.below hu).c1, fun hu => (h2.below hu).c2⟩
          clear hr hc hdec
          go_wp2_with fail
          refine wp_region_noPanic ?_
          refine wp_region_held_drew (S := (fun u => Below w2.heap.size w2 u ∧ u.cell? ⟨p, 1, none⟩ = some (.slice none 0 0) ∧ u.cell? ⟨p, 2, none⟩ = some (.int .i64 0))) (by kernel_rfl) (by first | exact ⟨(Below.refl _ _).drew, by simpa using c1, by simpa using c2⟩ | assumption) (fun hHeld => ?_)
          refine take_at (i := 0) 21 (v := ?_) rfl rfl (by kernel_rfl) (by kernel_rfl) (by kernel_rfl) (fun _ _ _ h => h) (by rfl) ?_ hHeld ?_
          rotate_left
          · (intro w hSw; (try dsimp only at hSw); go_simp; try with_reducible rfl)
          simp only [Act.put, List.setIfInBounds_toArray, List.set_cons_zero, List.set_cons_succ]
          refine take_at (i := 1) 22 (v := ?_) rfl rfl (by kernel_rfl) (by kernel_rfl) (by kernel_rfl) (fun _ _ _ h => h) (by rfl) ?_ hHeld ?_
          rotate_left
          · (intro w hSw; (try dsimp only at hSw); go_simp; try with_reducible rfl)
          simp only [Act.put, List.setIfInBounds_toArray, List.set_cons_zero, List.set_cons_succ]
          refine take_at (i := 2) 23 (v := ?_) rfl rfl (by kernel_rfl) (by kernel_rfl) (by kernel_rfl) (fun _ _ _ h => h) (by rfl) ?_ hHeld ?_
          rotate_left
          · (intro w hSw; (try dsimp only at hSw); go_simp; try with_reducible rfl)
          simp only [Act.put, List.setIfInBounds_toArray, List.set_cons_zero, List.set_cons_succ]
          refine take_at (i := 3) 24 (v := ?_) rfl rfl (by kernel_rfl) (by kernel_rfl) (by kernel_rfl) (fun _ _ _ h => h) (by rfl) ?_ hHeld ?_
          rotate_left
          · (intro w hSw; (try dsimp only at hSw); go_simp; try with_reducible rfl)
          simp only [Act.put, List.setIfInBounds_toArray, List.set_cons_zero, List.set_cons_succ]
          refine take_at (i := 4) 25 (v := ?_) rfl rfl (by kernel_rfl) (by kernel_rfl) (by kernel_rfl) (fun _ _ _ h => h) (by rfl) ?_ hHeld ?_
          rotate_left
          · (intro w hSw; (try dsimp only at hSw); go_simp; try with_reducible rfl)
          simp only [Act.put, List.setIfInBounds_toArray, List.set_cons_zero, List.set_cons_succ]
          refine take_at (i := 5) 26 (v := ?_) rfl rfl (by kernel_rfl) (by kernel_rfl) (by kernel_rfl) (fun _ _ _ h => h) (by rfl) ?_ hHeld ?_
          rotate_left
          · (intro w hSw; (try dsimp only at hSw); go_simp; try with_reducible rfl)
          simp only [Act.put, List.setIfInBounds_toArray, List.set_cons_zero, List.set_cons_succ]
          refine take_at (i := 6) 27 (v := ?_) rfl rfl (by kernel_rfl) (by kernel_rfl) (by kernel_rfl) (fun _ _ _ h => h) (by rfl) ?_ hHeld ?_
          rotate_left
          · (intro w hSw; (try dsimp only at hSw); go_simp; try with_reducible rfl)
          simp only [Act.put, List.setIfInBounds_toArray, List.set_cons_zero, List.set_cons_succ]
          refine take_at (i := 7) 28 (v := ?_) rfl rfl (by kernel_rfl) (by kernel_rfl) (by kernel_rfl) (fun _ _ _ h => h) (by rfl) ?_ hHeld ?_
          rotate_left
          · (intro w hSw; (try dsimp only at hSw); go_simp; try with_reducible rfl)
          simp only [Act.put, List.setIfInBounds_toArray, List.set_cons_zero, List.set_cons_succ]
          refine take_at (i := 8) 29 (v := ?_) rfl rfl (by kernel_rfl) (by kernel_rfl) (by kernel_rfl) (fun _ _ _ h => h) (by rfl) ?_ hHeld ?_
          rotate_left
          · (intro w hSw; (try dsimp only at hSw); go_simp; try with_reducible rfl)
          simp only [Act.put, List.setIfInBounds_toArray, List.set_cons_zero, List.set_cons_succ]
          refine take_at (i := 9) 30 (v := ?_) rfl rfl (by kernel_rfl) (by kernel_rfl) (by kernel_rfl) (fun _ _ _ h => h) (by rfl) ?_ hHeld ?_
          rotate_left
          · (intro w hSw; (try dsimp only at hSw); go_simp; try with_reducible rfl)
          simp only [Act.put, List.setIfInBounds_toArray, List.set_cons_zero, List.set_cons_succ]
          refine take_at (i := 10) 31 (v := ?_) rfl rfl (by kernel_rfl) (by kernel_rfl) (by kernel_rfl) (fun _ _ _ h => h) (by rfl) ?_ hHeld ?_
          rotate_left
          · (intro w hSw; (try dsimp only at hSw); go_simp; try with_reducible rfl)
          simp only [Act.put, List.setIfInBounds_toArray, List.set_cons_zero, List.set_cons_succ]
          refine take_at (i := 11) 32 (v := ?_) rfl rfl (by kernel_rfl) (by kernel_rfl) (by kernel_rfl) (fun _ _ _ h => h) (by rfl) ?_ hHeld ?_
          rotate_left
          · (intro w hSw; (try dsimp only at hSw); go_simp; try with_reducible rfl)
          simp only [Act.put, List.setIfInBounds_toArray, List.set_cons_zero, List.set_cons_succ]
          refine take_at (i := 12) 33 (v := ?_) rfl rfl (by kernel_rfl) (by kernel_rfl) (by kernel_rfl) (fun _ _ _ h => h) (by rfl) ?_ hHeld ?_
          rotate_left
          · (intro w hSw; (try dsimp only at hSw); go_simp; try with_reducible rfl)
          simp only [Act.put, List.setIfInBounds_toArray, List.set_cons_zero, List.set_cons_succ]
          refine take_at (i := 13) 34 (v := ?_) rfl rfl (by kernel_rfl) (by kernel_rfl) (by kernel_rfl) (fun _ _ _ h => h) (by rfl) ?_ hHeld ?_
          rotate_left
          · (intro w hSw; (try dsimp only at hSw); go_simp; try with_reducible rfl)
          simp only [Act.put, List.setIfInBounds_toArray, List.set_cons_zero, List.set_cons_succ]
          refine val_at (i := 14) 35 (v := ?_) rfl rfl (by kernel_rfl) (by rfl) ?_ ?_ ?_
          rotate_left
          · (go_simp; try with_reducible rfl)
          · (first | exact ⟨(Below.refl _ _).drew, by simpa using c1, by simpa using c2⟩ | assumption)
          intro hHeld2
          clear hHeld
          have hHeld := hHeld2
          clear hHeld2
          simp only [Act.put, List.setIfInBounds_toArray, List.set_cons_zero, List.set_cons_succ]
          refine run_at (i := 15) rfl (by kernel_rfl) (by rfl) (fun K hK => ?_)
          simp only [List.getElem_toArray, List.getElem_cons_zero, List.getElem_cons_succ]
          go_simp
          (go_at_call 51; refine (clone_n _ 0 0 [] rfl _ (hrt.below (Below.refl _ _).drew) (fun h => by rfl) (by omega)).mono ?_; rintro e w3 ⟨v3, rfl, hown3, hb3⟩; have hS3 := below_next (B := w2) (Below.refl _ _).drew hb3; have hS3' : Below w2.heap.size w2 w3 ∧ w3.cell? ⟨p, 1, none⟩ = some (.slice none 0 0) ∧ w3.cell? ⟨p, 2, none⟩ = some (.int .i64 0) := ⟨hS3, hb3'.1 hS3, hb3'.2 hS3⟩)
          go_wp2_with fail
          refine hK.out _ _ (by first | exact ⟨(Below.refl _ _).drew, by simpa using c1, by simpa using c2⟩ | assumption) ?_
          clear hK K
          intro hHeld2
          clear hHeld
          have hHeld := hHeld2
          clear hHeld2
          try simp only [Act.put, List.setIfInBounds_toArray, List.set_cons_zero, List.set_cons_succ]
          refine take_at (i := 16) 5 (v := ?_) rfl rfl (by kernel_rfl) (by kernel_rfl) (by kernel_rfl) (fun _ _ _ h => h) (by rfl) ?_ hHeld ?_
          rotate_left
          · (intro w hSw; (try dsimp only at hSw); go_simp; try with_reducible rfl)
          simp only [Act.put, List.setIfInBounds_toArray, List.set_cons_zero, List.set_cons_succ]
          refine wpAnyH_done (by kernel_rfl) ?_ _
          refine NoPanic.normal ?_
          have h3 := h2.below hS3
          have c23 := h3.c2
          have f23 := h3.f2
          have hpl2 : p < w2.heap.size := World.block_lt_of_cell? w2 _ c2
          have hown3' : Own w3 w1.heap.size v3 _ := hown3.base (by simpa using hz12)
          go_wp2
          go_ret
          rw [HV.out]
          exact ⟨_, rfl, own_setR hown3' p _ _ hpl1, h3.setP _ 0 (by go_num) (by simp), gr_set (gr_below hg2 hS3) _ _⟩
        · subst hao
          by_cases hcp : cap = pl
          · have hxl : xs.length = pl := by omega
            obtain rfl : N = 0 := by omega
            rw [hxl, hcp] at c1
            have hrt : Rd w2 (some ⟨b, o, none⟩) [] := Rd.nil _ _
            have hb3' : (∀ {u : World}, Below w2.heap.size w2 u → u.cell? ⟨p, 1, none⟩ = some (.slice (some ⟨b, o, none⟩) pl pl)) ∧ (∀ {u : World}, Below w2.heap.size w2 u → u.cell? ⟨p, 2, none⟩ = some (.int .i64 pl)) := ⟨fun hu => by have := (h2.below hu).c1; rwa [hxl, hcp] at this, fun hu => (h2.below hu).c2⟩
            have hw : IntKind.i64.wrap (pl : Int) = (pl : Int) := by rw [IntKind.wrap_i64]; omega
            have HXL : Hid (xs.length = pl) := hxl
            have HNL : Hid (0 ≤ xs.length - pl) := hNle
            rw [hxl, Nat.sub_self]
            clear hr hc hdec hcp hxl hNle hp hl
            go_wp2_with fail
            refine wp_region_noPanic ?_
            refine wp_region_held_drew (S := (fun u => Below w2.heap.size w2 u ∧ u.cell? ⟨p, 1, none⟩ = some (.slice (some ⟨b, o, none⟩) pl pl) ∧ u.cell? ⟨p, 2, none⟩ = some (.int .i64 pl))) (by kernel_rfl) (by first | exact ⟨(Below.refl _ _).drew, by simpa using c1, by simpa using c2⟩ | assumption) (fun hHeld => ?_)
            refine take_at (i := 0) 21 (v := ?_) rfl rfl (by kernel_rfl) (by kernel_rfl) (by kernel_rfl) (fun _ _ _ h => h) (by rfl) ?_ hHeld ?_
            rotate_left
            · (intro w hSw; (try dsimp only at hSw); go_simp; try with_reducible rfl)
            simp only [Act.put, List.setIfInBounds_toArray, List.set_cons_zero, List.set_cons_succ]
            refine take_at (i := 1) 22 (v := ?_) rfl rfl (by kernel_rfl) (by kernel_rfl) (by kernel_rfl) (fun _ _ _ h => h) (by rfl) ?_ hHeld ?_
            rotate_left
            · (intro w hSw; (try dsimp only at hSw); go_simp; try with_reducible rfl)
            simp only [Act.put, List.setIfInBounds_toArray, List.set_cons_zero, List.set_cons_succ]
            refine take_at (i := 2) 23 (v := ?_) rfl rfl (by kernel_rfl) (by kernel_rfl) (by kernel_rfl) (fun _ _ _ h => h) (by rfl) ?_ hHeld ?_
            rotate_left
            · (intro w hSw; (try dsimp only at hSw); go_simp; try with_reducible rfl)
            simp only [Act.put, List.setIfInBounds_toArray, List.set_cons_zero, List.set_cons_succ]
            refine take_at (i := 3) 24 (v := ?_) rfl rfl (by kernel_rfl) (by kernel_rfl) (by kernel_rfl) (fun _ _ _ h => h) (by rfl) ?_ hHeld ?_
            rotate_left
            · (intro w hSw; (try dsimp only at hSw); go_simp; try with_reducible rfl)
            simp only [Act.put, List.setIfInBounds_toArray, List.set_cons_zero, List.set_cons_succ]
            refine take_at (i := 4) 25 (v := ?_) rfl rfl (by kernel_rfl) (by kernel_rfl) (by kernel_rfl) (fun _ _ _ h => h) (by rfl) ?_ hHeld ?_
            rotate_left
            · (intro w hSw; (try dsimp only at hSw); go_simp; try with_reducible rfl)
            simp only [Act.put, List.setIfInBounds_toArray, List.set_cons_zero, List.set_cons_succ]
            refine take_at (i := 5) 26 (v := ?_) rfl rfl (by kernel_rfl) (by kernel_rfl) (by kernel_rfl) (fun _ _ _ h => h) (by rfl) ?_ hHeld ?_
            rotate_left
            · (intro w hSw; (try dsimp only at hSw); go_simp; try with_reducible rfl)
            simp only [Act.put, List.setIfInBounds_toArray, List.set_cons_zero, List.set_cons_succ]
            refine take_at (i := 6) 27 (v := ?_) rfl rfl (by kernel_rfl) (by kernel_rfl) (by kernel_rfl) (fun _ _ _ h => h) (by rfl) ?_ hHeld ?_
            rotate_left
            · (intro w hSw; (try dsimp only at hSw); go_simp; try with_reducible rfl)
            simp only [Act.put, List.setIfInBounds_toArray, List.set_cons_zero, List.set_cons_succ]
            refine take_at (i := 7) 28 (v := ?_) rfl rfl (by kernel_rfl) (by kernel_rfl) (by kernel_rfl) (fun _ _ _ h => h) (by rfl) ?_ hHeld ?_
            rotate_left
            · (intro w hSw; (try dsimp only at hSw); go_simp; try with_reducible rfl)
            simp only [Act.put, List.setIfInBounds_toArray, List.set_cons_zero, List.set_cons_succ]
            refine take_at (i := 8) 29 (v := ?_) rfl rfl (by kernel_rfl) (by kernel_rfl) (by kernel_rfl) (fun _ _ _ h => h) (by rfl) ?_ hHeld ?_
            rotate_left
            · (intro w hSw; (try dsimp only at hSw); go_simp; try with_reducible rfl)
            simp only [Act.put, List.setIfInBounds_toArray, List.set_cons_zero, List.set_cons_succ]
            refine take_at (i := 9) 30 (v := ?_) rfl rfl (by kernel_rfl) (by kernel_rfl) (by kernel_rfl) (fun _ _ _ h => h) (by rfl) ?_ hHeld ?_
            rotate_left
            · (intro w hSw; (try dsimp only at hSw); go_simp; try with_reducible rfl)
            simp only [Act.put, List.setIfInBounds_toArray, List.set_cons_zero, List.set_cons_succ]
            refine take_at (i := 10) 31 (v := ?_) rfl rfl (by kernel_rfl) (by kernel_rfl) (by kernel_rfl) (fun _ _ _ h => h) (by rfl) ?_ hHeld ?_
            rotate_left
            · (intro w hSw; (try dsimp only at hSw); go_simp; try with_reducible rfl)
            simp only [Act.put, List.setIfInBounds_toArray, List.set_cons_zero, List.set_cons_succ]
            refine take_at (i := 11) 32 (v := ?_) rfl rfl (by kernel_rfl) (by kernel_rfl) (by kernel_rfl) (fun _ _ _ h => h) (by rfl) ?_ hHeld ?_
            rotate_left
            · (intro w hSw; (try dsimp only at hSw); go_simp; try with_reducible rfl)
            simp only [Act.put, List.setIfInBounds_toArray, List.set_cons_zero, List.set_cons_succ]
            refine take_at (i := 12) 33 (v := ?_) rfl rfl (by kernel_rfl) (by kernel_rfl) (by kernel_rfl) (fun _ _ _ h => h) (by rfl) ?_ hHeld ?_
            rotate_left
            · (intro w hSw; (try dsimp only at hSw); go_simp; try with_reducible rfl)
            simp only [Act.put, List.setIfInBounds_toArray, List.set_cons_zero, List.set_cons_succ]
            refine take_at (i := 13) 34 (v := ?_) rfl rfl (by kernel_rfl) (by kernel_rfl) (by kernel_rfl) (fun _ _ _ h => h) (by rfl) ?_ hHeld ?_
            rotate_left
            · (intro w hSw; (try dsimp only at hSw); go_simp; try with_reducible rfl)
            simp only [Act.put, List.setIfInBounds_toArray, List.set_cons_zero, List.set_cons_succ]
            refine val_at (i := 14) 35 (v := ?_) rfl rfl (by kernel_rfl) (by rfl) ?_ ?_ ?_
            rotate_left
            · (go_simp; try with_reducible rfl)
            · (first | exact ⟨(Below.refl _ _).drew, by simpa using c1, by simpa using c2⟩ | assumption)
            intro hHeld2
            clear hHeld
            have hHeld := hHeld2
            clear hHeld2
            simp only [Act.put, List.setIfInBounds_toArray, List.set_cons_zero, List.set_cons_succ]
            refine run_at (i := 15) rfl (by kernel_rfl) (by rfl) (fun K hK => ?_)
            simp only [List.getElem_toArray, List.getElem_cons_zero, List.getElem_cons_succ]
            go_simp
            (go_at_call 51; refine (clone_n _ 0 0 [] rfl _ (hrt.below (Below.refl _ _).drew) (fun h => by cases h) (by omega)).mono ?_; rintro e w3 ⟨v3, rfl, hown3, hb3⟩; have hS3 := below_next (B := w2) (Below.refl _ _).drew hb3; have hS3' : Below w2.heap.size w2 w3 ∧ w3.cell? ⟨p, 1, none⟩ = some (.slice (some ⟨b, o, none⟩) pl pl) ∧ w3.cell? ⟨p, 2, none⟩ = some (.int .i64 pl) := ⟨hS3, hb3'.1 hS3, hb3'.2 hS3⟩)
            go_wp2_with fail
            refine hK.out _ _ (by first | exact ⟨(Below.refl _ _).drew, by simpa using c1, by simpa using c2⟩ | assumption) ?_
            clear hK K
            intro hHeld2
            clear hHeld
            have hHeld := hHeld2
            clear hHeld2
            try simp only [Act.put, List.setIfInBounds_toArray, List.set_cons_zero, List.set_cons_succ]
            refine take_at (i := 16) 5 (v := ?_) rfl rfl (by kernel_rfl) (by kernel_rfl) (by kernel_rfl) (fun _ _ _ h => h) (by rfl) ?_ hHeld ?_
            rotate_left
            · (intro w hSw; (try dsimp only at hSw); go_simp; try with_reducible rfl)
            simp only [Act.put, List.setIfInBounds_toArray, List.set_cons_zero, List.set_cons_succ]
            refine wpAnyH_done (by kernel_rfl) ?_ _
            refine NoPanic.normal ?_
            have h3 := h2.below hS3
            have c23 := h3.c2
            have f23 := h3.f2
            have hpl2 : p < w2.heap.size := World.block_lt_of_cell? w2 _ c2
            have hown3' : Own w3 w1.heap.size v3 _ := hown3.base (by simpa using hz12)
            go_wp2
            go_ret
            rw [HV.out]
            exact ⟨_, rfl, own_setR hown3' p _ _ hpl1, h3.setP _ pl (by go_num) (by rw [HXL.out]; exact Nat.le_refl _), gr_set (gr_below hg2 hS3) _ _⟩
          · have hrt : Rd w2 (some ⟨b, o + pl, none⟩) ((xs.drop pl).take N) := (hr.drop pl).take N
            obtain ⟨M, hM⟩ : ∃ M : Nat, M = pl + N := ⟨_, rfl⟩
            have hw : IntKind.i64.wrap ((pl : Int) + (N : Int)) = (M : Int) := by rw [IntKind.wrap_i64]; omega
            have HLEN : Hid (M - pl = ((xs.drop pl).take N).length) := by unfold Hid; simp; omega
            have HM : Hid (M = pl + N) := hM
            have hc' : pl ≤ cap := by omega
            have hcN : M ≤ cap := by omega
            have hcM : pl ≤ M := by omega
            have hcN2 : M ≤ xs.length := by omega
            clear hr hp hc hM
            have hb3' : (∀ {u : World}, Below w2.heap.size w2 u → u.cell? ⟨p, 1, none⟩ = some (.slice (some ⟨b, o, none⟩) xs.length cap)) ∧ (∀ {u : World}, Below w2.heap.size w2 u → u.cell? ⟨p, 2, none⟩ = some (.int .i64 pl)) := ⟨fun hu => (h2.below hu).c1, fun hu => (h2.below hu).c2⟩
            go_wp2_with fail
            refine wp_region_noPanic ?_
            refine wp_region_held_drew (S := (fun u => Below w2.heap.size w2 u ∧ u.cell? ⟨p, 1, none⟩ = some (.slice (some ⟨b, o, none⟩) xs.length cap) ∧ u.cell? ⟨p, 2, none⟩ = some (.int .i64 pl))) (by kernel_rfl) (by first | exact ⟨(Below.refl _ _).drew, by simpa using c1, by simpa using c2⟩ | assumption) (fun hHeld => ?_)
            refine take_at (i := 0) 21 (v := ?_) rfl rfl (by kernel_rfl) (by kernel_rfl) (by kernel_rfl) (fun _ _ _ h => h) (by rfl) ?_ hHeld ?_
            rotate_left
            · (intro w hSw; (try dsimp only at hSw); go_simp; try with_reducible rfl)
            simp only [Act.put, List.setIfInBounds_toArray, List.set_cons_zero, List.set_cons_succ]
            refine take_at (i := 1) 22 (v := ?_) rfl rfl (by kernel_rfl) (by kernel_rfl) (by kernel_rfl) (fun _ _ _ h => h) (by rfl) ?_ hHeld ?_
            rotate_left
            · (intro w hSw; (try dsimp only at hSw); go_simp; try with_reducible rfl)
            simp only [Act.put, List.setIfInBounds_toArray, List.set_cons_zero, List.set_cons_succ]
            refine take_at (i := 2) 23 (v := ?_) rfl rfl (by kernel_rfl) (by kernel_rfl) (by kernel_rfl) (fun _ _ _ h => h) (by rfl) ?_ hHeld ?_
            rotate_left
            · (intro w hSw; (try dsimp only at hSw); go_simp; try with_reducible rfl)
            simp only [Act.put, List.setIfInBounds_toArray, List.set_cons_zero, List.set_cons_succ]
            refine take_at (i := 3) 24 (v := ?_) rfl rfl (by kernel_rfl) (by kernel_rfl) (by kernel_rfl) (fun _ _ _ h => h) (by rfl) ?_ hHeld ?_
            rotate_left
            · (intro w hSw; (try dsimp only at hSw); go_simp; try with_reducible rfl)
            simp only [Act.put, List.setIfInBounds_toArray, List.set_cons_zero, List.set_cons_succ]
            refine take_at (i := 4) 25 (v := ?_) rfl rfl (by kernel_rfl) (by kernel_rfl) (by kernel_rfl) (fun _ _ _ h => h) (by rfl) ?_ hHeld ?_
            rotate_left
            · (intro w hSw; (try dsimp only at hSw); go_simp; try with_reducible rfl)
            simp only [Act.put, List.setIfInBounds_toArray, List.set_cons_zero, List.set_cons_succ]
            refine take_at (i := 5) 26 (v := ?_) rfl rfl (by kernel_rfl) (by kernel_rfl) (by kernel_rfl) (fun _ _ _ h => h) (by rfl) ?_ hHeld ?_
            rotate_left
            · (intro w hSw; (try dsimp only at hSw); go_simp; try with_reducible rfl)
            simp only [Act.put, List.setIfInBounds_toArray, List.set_cons_zero, List.set_cons_succ]
            refine take_at (i := 6) 27 (v := ?_) rfl rfl (by kernel_rfl) (by kernel_rfl) (by kernel_rfl) (fun _ _ _ h => h) (by rfl) ?_ hHeld ?_
            rotate_left
            · (intro w hSw; (try dsimp only at hSw); go_simp; try with_reducible rfl)
            simp only [Act.put, List.setIfInBounds_toArray, List.set_cons_zero, List.set_cons_succ]
            refine take_at (i := 7) 28 (v := ?_) rfl rfl (by kernel_rfl) (by kernel_rfl) (by kernel_rfl) (fun _ _ _ h => h) (by rfl) ?_ hHeld ?_
            rotate_left
            · (intro w hSw; (try dsimp only at hSw); go_simp; try with_reducible rfl)
            simp only [Act.put, List.setIfInBounds_toArray, List.set_cons_zero, List.set_cons_succ]
            refine take_at (i := 8) 29 (v := ?_) rfl rfl (by kernel_rfl) (by kernel_rfl) (by kernel_rfl) (fun _ _ _ h => h) (by rfl) ?_ hHeld ?_
            rotate_left
            · (intro w hSw; (try dsimp only at hSw); go_simp; try with_reducible rfl)
            simp only [Act.put, List.setIfInBounds_toArray, List.set_cons_zero, List.set_cons_succ]
            refine take_at (i := 9) 30 (v := ?_) rfl rfl (by kernel_rfl) (by kernel_rfl) (by kernel_rfl) (fun _ _ _ h => h) (by rfl) ?_ hHeld ?_
            rotate_left
            · (intro w hSw; (try dsimp only at hSw); go_simp; try with_reducible rfl)
            simp only [Act.put, List.setIfInBounds_toArray, List.set_cons_zero, List.set_cons_succ]
            refine take_at (i := 10) 31 (v := ?_) rfl rfl (by kernel_rfl) (by kernel_rfl) (by kernel_rfl) (fun _ _ _ h => h) (by rfl) ?_ hHeld ?_
            rotate_left
            · (intro w hSw; (try dsimp only at hSw); go_simp; try with_reducible rfl)
            simp only [Act.put, List.setIfInBounds_toArray, List.set_cons_zero, List.set_cons_succ]
            refine take_at (i := 11) 32 (v := ?_) rfl rfl (by kernel_rfl) (by kernel_rfl) (by kernel_rfl) (fun _ _ _ h => h) (by rfl) ?_ hHeld ?_
            rotate_left
            · (intro w hSw; (try dsimp only at hSw); go_simp; try with_reducible rfl)
            simp only [Act.put, List.setIfInBounds_toArray, List.set_cons_zero, List.set_cons_succ]
            refine take_at (i := 12) 33 (v := ?_) rfl rfl (by kernel_rfl) (by kernel_rfl) (by kernel_rfl) (fun _ _ _ h => h) (by rfl) ?_ hHeld ?_
            rotate_left
            · (intro w hSw; (try dsimp only at hSw); go_simp; try with_reducible rfl)
            simp only [Act.put, List.setIfInBounds_toArray, List.set_cons_zero, List.set_cons_succ]
            refine take_at (i := 13) 34 (v := ?_) rfl rfl (by kernel_rfl) (by kernel_rfl) (by kernel_rfl) (fun _ _ _ h => h) (by rfl) ?_ hHeld ?_
            rotate_left
            · (intro w hSw; (try dsimp only at hSw); go_simp; try with_reducible rfl)
            simp only [Act.put, List.setIfInBounds_toArray, List.set_cons_zero, List.set_cons_succ]
            refine val_at (i := 14) 35 (v := ?_) rfl rfl (by kernel_rfl) (by rfl) ?_ ?_ ?_
            rotate_left
            · (go_simp; try with_reducible rfl)
            · (first | exact ⟨(Below.refl _ _).drew, by simpa using c1, by simpa using c2⟩ | assumption)
            intro hHeld2
            clear hHeld
            have hHeld := hHeld2
            clear hHeld2
            simp only [Act.put, List.setIfInBounds_toArray, List.set_cons_zero, List.set_cons_succ]
            refine run_at (i := 15) rfl (by kernel_rfl) (by rfl) (fun K hK => ?_)
            simp only [List.getElem_toArray, List.getElem_cons_zero, List.getElem_cons_succ]
            go_simp
            (go_at_call 51; refine (clone_n _ (M - pl) (cap - pl) ((xs.drop pl).take N) HLEN.out _ (hrt.below (Below.refl _ _).drew) (fun h => by cases h) (by omega)).mono ?_; rintro e w3 ⟨v3, rfl, hown3, hb3⟩; have hS3 := below_next (B := w2) (Below.refl _ _).drew hb3; have hS3' : Below w2.heap.size w2 w3 ∧ w3.cell? ⟨p, 1, none⟩ = some (.slice (some ⟨b, o, none⟩) xs.length cap) ∧ w3.cell? ⟨p, 2, none⟩ = some (.int .i64 pl) := ⟨hS3, hb3'.1 hS3, hb3'.2 hS3⟩)
            go_wp2_with fail
            refine hK.out _ _ (by first | exact ⟨(Below.refl _ _).drew, by simpa using c1, by simpa using c2⟩ | assumption) ?_
            clear hK K
            intro hHeld2
            clear hHeld
            have hHeld := hHeld2
            clear hHeld2
            try simp only [Act.put, List.setIfInBounds_toArray, List.set_cons_zero, List.set_cons_succ]
            refine take_at (i := 16) 5 (v := ?_) rfl rfl (by kernel_rfl) (by kernel_rfl) (by kernel_rfl) (fun _ _ _ h => h) (by rfl) ?_ hHeld ?_
            rotate_left
            · (intro w hSw; (try dsimp only at hSw); go_simp; try with_reducible rfl)
            simp only [Act.put, List.setIfInBounds_toArray, List.set_cons_zero, List.set_cons_succ]
            refine wpAnyH_done (by kernel_rfl) ?_ _
            refine NoPanic.normal ?_
            have h3 := h2.below hS3
            have c23 := h3.c2
            have f23 := h3.f2
            have hpl2 : p < w2.heap.size := World.block_lt_of_cell? w2 _ c2
            have hown3' : Own w3 w1.heap.size v3 _ := hown3.base (by simpa using hz12)
            go_wp2
            go_ret
            rw [HV.out]
            exact ⟨_, rfl, own_setR hown3' p _ _ hpl1, h3.setP _ (pl + N) (by have := HM.out; go_num) (by have := HM.out; omega), gr_set (gr_below hg2 hS3) _ _⟩
  · have HV : Hid (rTake n (xs.drop pl) f = ([], 0, f)) := by unfold Hid rTake; rw [if_neg hf]
    go_enter Tryz.func106, Tryz.ntmps106
    go_wp2_with fail
    refine (err_r w h).mono ?_
    rintro e w1 ⟨rfl, hw1⟩
    subst hw1
    go_wp2
    go_ret
    rw [HV.out]
    exact ⟨_, rfl, World.ownsRow_nil _ _ _ _, h, World.grownBy.refl _ _⟩
end Go.Proofs.YtplncfahpdmcoaaGreatDoor
namespace Go.Proofs.YtplncfahpdmcoaaGreatDoor
set_option linter.unusedVariables false
set_option linter.unusedSimpArgs false
open Go.RowKit
/-- Reader.Bytes: what it gives, how far it goes on, the fault then -/
def rBytes (n : Int) (ys : List UInt8) (f : Int) : List UInt8 × Nat × Int :=
  if f = 0 then (if n < 0 then ([], 0, 1) else if (ahS n.toNat ys).2.2 = 0 then (if ys.length - (ahS n.toNat ys).2.1 < (ahS n.toNat ys).1 then ([], 0, 10) else ((ys.drop (ahS n.toNat ys).2.1).take (ahS n.toNat ys).1, (ahS n.toNat ys).2.1 + (ahS n.toNat ys).1, 0)) else ([], 0, ((ahS n.toNat ys).2.2 : Nat))) else ([], 0, f)
def rEnd (ys : List UInt8) (f : Int) : Int := if f = 0 then (if 0 < ys.length then 11 else 0) else f
set_option maxRecDepth 20000 in
set_option maxHeartbeats 1600000 in
theorem bytes_r {p : Nat} {ao : Option Addr} {cap : Nat} {xs : List UInt8} {pl : Nat} {f : Int} (n : Int) (hn64 : n ≤ 9223372036854775807) (w : World) (h : RdrAt w p ao cap xs pl f) :
    Calls Tryz.prog 94 #[.pointer (some ⟨p, 0, none⟩), .int .i64 n] w fun e w' => ∃ v, e = .returned v ∧ Own w' w.heap.size v (rBytes n (xs.drop pl) f).1 ∧ RdrAt w' p ao cap xs (pl + (rBytes n (xs.drop pl) f).2.1) (rBytes n (xs.drop pl) f).2.2 ∧ w.grownBy w' (some p) := by
  have hp := h.hp
  have hl := h.hl
  by_cases hf : f = 0
  · subst hf
    by_cases hn : n < 0
    · have HV : Hid (rBytes n (xs.drop pl) 0 = ([], 0, 1)) := by unfold Hid rBytes; rw [if_pos rfl, if_pos hn]
      have k4 := h.f3
      have k5 := h.c3
      clear hn64
      go_enter Tryz.func94, Tryz.ntmps94
      go_wp2_with fail
      refine (err_r w h).mono ?_
      rintro e w1 ⟨rfl, hw1⟩
      subst hw1
      go_wp2
      go_ret
      rw [HV.out]
      exact ⟨_, rfl, World.ownsRow_nil _ _ _ _, h.setF _, gr_set (World.grownBy.refl _ _) _ _⟩
    · obtain ⟨m, rfl⟩ : ∃ m : Nat, n = m := ⟨n.toNat, by omega⟩
      obtain ⟨N, K, E, hN⟩ : ∃ N K E : Nat, ahS m (xs.drop pl) = (N, K, E) := ⟨_, _, _, rfl⟩
      have hK := (ahS_le m (xs.drop pl)).2
      have hnv : ahV m (xs.drop pl) = .tuple #[.int .u64 N, .int .i64 K, .int .i64 E] := by unfold ahV; rw [hN]
      have HV : Hid (rBytes m (xs.drop pl) 0 = if E = 0 then (if xs.length - pl - K < N then ([], 0, 10) else (((xs.drop pl).drop K).take N, K + N, 0)) else ([], 0, (E : Int))) := by
        unfold Hid rBytes
        rw [if_pos rfl, if_neg hn, Int.toNat_natCast, hN]
        simp only [List.length_drop]
      rw [hN] at hK
      have hK2 : K ≤ xs.length - pl := by simpa using hK
      have hwm : IntKind.u64.wrap (m : Int) = (m : Int) := by rw [IntKind.wrap_u64]; omega
      clear hN hK hn hn64
      go_enter Tryz.func94, Tryz.ntmps94
      go_wp2_with fail
      refine (err_r w h).mono ?_
      rintro e w1 ⟨rfl, hw1⟩
      subst hw1
      go_wp2_with fail
      refine (ahead_r m w1 h).mono ?_
      rintro e w2 ⟨rfl, q, hw2⟩
      rw [hnv]
      have h2 : RdrAt w2 p ao cap xs pl 0 := by rw [hw2]; exact h.drewN q
      have hg2 : w1.grownBy w2 (some p) := by rw [hw2]; exact gr_drewN (World.grownBy.refl _ _) q
      clear hw2 hnv
      by_cases hE : E = 0
      · subst hE
        go_wp2_with fail
        refine (left_r w2 h2).mono ?_
        rintro e w3 ⟨rfl, q3, hw3⟩
        have h3 : RdrAt w3 p ao cap xs pl 0 := by rw [hw3]; exact h2.drewN q3
        have hg3 : w1.grownBy w3 (some p) := by rw [hw3]; exact gr_drewN hg2 q3
        have k2 := h3.c2
        have k3 := h3.f2
        have k4 := h3.f3
        have k5 := h3.c3
        clear hw3
        obtain ⟨R, hR⟩ : ∃ R : Nat, R = xs.length - pl - K := ⟨_, rfl⟩
        have hwR : IntKind.i64.wrap (((xs.length - pl : Nat) : Int) - (K : Int)) = (R : Int) := by rw [IntKind.wrap_i64]; omega
        have hwR2 : IntKind.u64.wrap (R : Int) = (R : Int) := by rw [IntKind.wrap_u64]; omega
        by_cases hlt : R < N
        · have HV2 : Hid (rBytes m (xs.drop pl) 0 = ([], 0, 10)) := by have e := HV.out; simp only [if_true] at e; rw [if_pos (by omega)] at e; exact e
          clear HV
          go_wp2
          go_ret
          rw [HV2.out]
          exact ⟨_, rfl, World.ownsRow_nil _ _ _ _, h3.setF _, gr_set hg3 _ _⟩
        · have HV2 : Hid (rBytes m (xs.drop pl) 0 = (((xs.drop pl).drop K).take N, K + N, 0)) := by have e := HV.out; simp only [if_true] at e; rw [if_neg (by omega)] at e; exact e
          clear HV
          have hwN : IntKind.i64.wrap (N : Int) = (N : Int) := by rw [IntKind.wrap_i64]; omega
          obtain ⟨M, hM⟩ : ∃ M : Nat, M = pl + K := ⟨_, rfl⟩
          have hwM : IntKind.i64.wrap ((pl : Int) + (K : Int)) = (M : Int) := by rw [IntKind.wrap_i64]; omega
          have h4 : RdrAt (w3.setCell ⟨p, 2, none⟩ (.int .i64 M)) p ao cap xs M 0 := h3.setP _ M rfl (by omega)
          have hg4 := gr_set hg3 2 (.int .i64 M)
          have HM : Hid (M = pl + K) := hM
          have HRN : Hid (N ≤ xs.length - pl - K) := by unfold Hid; omega
          clear hM hR
          go_wp2_with fail
          refine (take_r N _ h4).mono ?_
          rintro e w5 ⟨v5, rfl, hown5, h5, hg5⟩
          have HT : rTake N (xs.drop M) 0 = ((xs.drop M).take N, N, 0) := by
            unfold rTake
            have e1 := HM.out
            have e2 := HRN.out
            rw [if_pos rfl, if_neg (by omega), if_neg (by simp; omega)]
            rfl
          rw [HT] at hown5 h5
          go_wp2
          go_ret
          rw [HV2.out]
          refine ⟨_, rfl, ?_, ?_, hg4.trans' hg5⟩
          · have e1 := HM.out
            show Own w5 _ _ (((xs.drop pl).drop K).take N)
            rw [List.drop_drop, ← e1]
            exact hown5.base hg4.size
          · have e1 := HM.out
            show RdrAt w5 p ao cap xs (pl + (K + N)) 0
            rw [← Nat.add_assoc, ← e1]
            exact h5
      · have HV2 : Hid (rBytes m (xs.drop pl) 0 = ([], 0, (E : Int))) := by have e := HV.out; rw [if_neg hE] at e; exact e
        clear HV
        have k4 := h2.f3
        have k5 := h2.c3
        go_wp2
        go_ret
        rw [HV2.out]
        exact ⟨_, rfl, World.ownsRow_nil _ _ _ _, h2.setF _, gr_set hg2 _ _⟩
  · have HV : Hid (rBytes n (xs.drop pl) f = ([], 0, f)) := by unfold Hid rBytes; rw [if_neg hf]
    clear hn64
    go_enter Tryz.func94, Tryz.ntmps94
    go_wp2_with fail
    refine (err_r w h).mono ?_
    rintro e w1 ⟨rfl, hw1⟩
    subst hw1
    go_wp2
    go_ret
    rw [HV.out]
    exact ⟨_, rfl, World.ownsRow_nil _ _ _ _, h, World.grownBy.refl _ _⟩
theorem end_r {p : Nat} {ao : Option Addr} {cap : Nat} {xs : List UInt8} {pl : Nat} {f : Int} (w : World) (h : RdrAt w p ao cap xs pl f) :
    Calls Tryz.prog 30 #[.pointer (some ⟨p, 0, none⟩)] w fun e w' => e = .returned (.int .i64 (rEnd (xs.drop pl) f)) ∧ RdrAt w' p ao cap xs pl (rEnd (xs.drop pl) f) ∧ w.grownBy w' (some p) := by
  have hp := h.hp
  have hl := h.hl
  by_cases h0 : 0 < xs.length - pl
  · have HV : Hid (rEnd (xs.drop pl) f = if f = 0 then 11 else f) := by unfold Hid rEnd; rw [if_pos (show 0 < (xs.drop pl).length by simp; omega)]
    go_enter Tryz.func30, Tryz.ntmps30
    go_wp2_with fail
    refine (left_r w h).mono ?_
    rintro e w2 ⟨rfl, q, hw2⟩
    have h2 : RdrAt w2 p ao cap xs pl f := by rw [hw2]; exact h.drewN q
    have hg2 : w.grownBy w2 (some p) := by rw [hw2]; exact gr_drewN (World.grownBy.refl _ _) q
    clear hw2
    go_wp2_with fail
    refine (fail_r 11 w2 h2).mono ?_
    rintro e w3 ⟨rfl, h3, hg3⟩
    rw [← HV.out] at h3
    go_wp2_with fail
    refine (err_r w3 h3).mono ?_
    rintro e w4 ⟨rfl, hw4⟩
    subst hw4
    go_wp2
    go_ret
    exact ⟨rfl, h3, hg2.trans' hg3⟩
  · have HV : Hid (rEnd (xs.drop pl) f = f) := by
      unfold Hid rEnd
      rw [if_neg (show ¬ 0 < (xs.drop pl).length by simp; omega)]
      split <;> simp_all
    have h0' : xs.length - pl = 0 := by omega
    clear h0
    go_enter Tryz.func30, Tryz.ntmps30
    go_wp2_with fail
    refine (left_r w h).mono ?_
    rintro e w2 ⟨rfl, q, hw2⟩
    rw [h0']
    have h2 : RdrAt w2 p ao cap xs pl f := by rw [hw2]; exact h.drewN q
    have hg2 : w.grownBy w2 (some p) := by rw [hw2]; exact gr_drewN (World.grownBy.refl _ _) q
    clear hw2 h0'
    go_wp2_with fail
    refine (err_r w2 h2).mono ?_
    rintro e w4 ⟨rfl, hw4⟩
    subst hw4
    go_wp2
    go_ret
    rw [HV.out]
    exact ⟨rfl, h2, hg2⟩
end Go.Proofs.YtplncfahpdmcoaaGreatDoor
