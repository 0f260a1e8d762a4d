import Derived.Test.YtkjdeeamckmebaaDoorRgP
import Derived.Test.YtkjdeeamckmebaaDoorGNext
import Derived.Test.YtkjdeeamckmebaaDoorUG3
namespace Go.Proofs.YtkjdeeamckmebaaDoor
set_option linter.unusedVariables false
set_option linter.unusedSimpArgs false
/-- how many numbers below N it has -/
def cntN (l : List Rg) : Nat → Nat
  | 0 => 0
  | n + 1 => cntN l n + if hasB l (n : Int) = true then 1 else 0
def sizeR (l : List Rg) : Int := (l.map fun x => x.2 - x.1).sum
theorem sizeR_nil : sizeR [] = 0 := rfl
theorem sizeR_snoc (l : List Rg) (x : Rg) : sizeR (l ++ [x]) = sizeR l + (x.2 - x.1) := by
  unfold sizeR
  simp
theorem hasB_iffR (l : List Rg) (i : Int) : hasB l i = true ↔ hasR l i := by
  unfold hasB hasR
  rw [List.any_eq_true]
  constructor
  · rintro ⟨x, hx, h⟩; exact ⟨x, hx, by simpa using h⟩
  · rintro ⟨x, hx, h⟩; exact ⟨x, hx, by simpa using h⟩
theorem cntN_congr {l m : List Rg} : ∀ (n : Nat), (∀ i : Int, 0 ≤ i → i < n → (hasR l i ↔ hasR m i)) → cntN l n = cntN m n
  | 0, _ => rfl
  | n + 1, h => by
    have h1 := cntN_congr n (fun i h0 hi => h i h0 (by omega))
    have h2 : hasB l (n : Int) = hasB m (n : Int) := by
      rw [Bool.eq_iff_iff, hasB_iffR, hasB_iffR]
      exact h n (by omega) (by omega)
    unfold cntN
    rw [h1, h2]
/-- what has and what has not make all -/
theorem cntN_compl {l m : List Rg} : ∀ (n : Nat), (∀ i : Int, 0 ≤ i → i < n → (hasR m i ↔ ¬ hasR l i)) → cntN l n + cntN m n = n
  | 0, _ => rfl
  | n + 1, h => by
    have h1 := cntN_compl n (fun i h0 hi => h i h0 (by omega))
    have h2 := h n (by omega) (by omega)
    unfold cntN
    by_cases hl : hasR l (n : Int)
    · have a1 : hasB l (n : Int) = true := (hasB_iffR _ _).2 hl
      have a2 : ¬ hasB m (n : Int) = true := fun h9 => h2.1 ((hasB_iffR _ _).1 h9) hl
      rw [if_pos a1, if_neg a2]
      omega
    · have a1 : ¬ hasB l (n : Int) = true := fun h9 => hl ((hasB_iffR _ _).1 h9)
      have a2 : hasB m (n : Int) = true := (hasB_iffR _ _).2 (h2.2 hl)
      rw [if_neg a1, if_pos a2]
      omega
/-- one range behind all the others -/
theorem cntN_snoc {l : List Rg} {x : Rg} (h0 : 0 ≤ x.1) (hx : x.1 < x.2) (hb : ∀ i, hasR l i → i < x.1) : ∀ (n : Nat), (cntN (l ++ [x]) n : Int) = cntN l n + (if (n : Int) ≤ x.1 then 0 else if (n : Int) ≤ x.2 then (n : Int) - x.1 else x.2 - x.1)
  | 0 => by rw [if_pos (by omega)]; simp [cntN]
  | n + 1 => by
    have ih := cntN_snoc h0 hx hb n
    have hs := hasR_snoc l x (n : Int)
    unfold cntN
    by_cases hl : hasR l (n : Int)
    · have a1 : hasB l (n : Int) = true := (hasB_iffR _ _).2 hl
      have a2 : hasB (l ++ [x]) (n : Int) = true := (hasB_iffR _ _).2 (hs.2 (.inl hl))
      have h3 := hb _ hl
      rw [if_pos a1, if_pos a2]
      rw [if_pos (by omega)] at ih
      rw [if_pos (by omega)]
      omega
    · have a1 : ¬ hasB l (n : Int) = true := fun h9 => hl ((hasB_iffR _ _).1 h9)
      rw [if_neg a1]
      by_cases hi : x.1 ≤ (n : Int) ∧ (n : Int) < x.2
      · have a2 : hasB (l ++ [x]) (n : Int) = true := (hasB_iffR _ _).2 (hs.2 (.inr hi))
        rw [if_pos a2]
        push_cast
        split at ih <;> split <;> (try split at ih) <;> (try split) <;> omega
      · have a2 : ¬ hasB (l ++ [x]) (n : Int) = true := fun h9 => by
          rcases hs.1 ((hasB_iffR _ _).1 h9) with h8 | h8
          · exact hl h8
          · exact hi h8
        rw [if_neg a2]
        push_cast
        split at ih <;> split <;> (try split at ih) <;> (try split) <;> omega
theorem cntN_nil : ∀ n : Nat, cntN [] n = 0
  | 0 => rfl
  | n + 1 => by
    have a1 : ¬ hasB [] (n : Int) = true := by simp [hasB]
    unfold cntN
    rw [cntN_nil n, if_neg a1]
theorem Lst.lt_of {l : List Rg} {x : Rg} (h : Lst (l ++ [x])) {i : Int} (hi : hasR l i) : i < x.1 := by
  obtain ⟨-, -, hg⟩ := h.init
  obtain ⟨y, hy, h1, h2⟩ := hi
  have := hg y hy
  omega
theorem Lst.mem_fst {l : List Rg} (h : Lst l) {x : Rg} (hx : x ∈ l) : hasR l x.1 ∧ hasR l (x.2 - 1) ∧ x.1 < x.2 := by
  have := h.pos x hx
  exact ⟨⟨x, hx, by omega, by omega⟩, ⟨x, hx, by omega, by omega⟩, this⟩
/-- the numbers of a least form are counted by its sizes -/
theorem size_cnt (n : Nat) : ∀ (k : Nat) (l : List Rg), l.length = k → Lst l → (∀ x ∈ l, 0 ≤ x.1 ∧ x.2 ≤ n) → sizeR l = cntN l n
  | 0, l, hk, _, _ => by
    obtain rfl : l = [] := List.eq_nil_of_length_eq_zero hk
    rw [cntN_nil]
    rfl
  | k + 1, l, hk, h, hb => by
    rcases List.eq_nil_or_concat l with h0 | ⟨r, x, h0⟩
    · subst h0; simp at hk
    · rw [List.concat_eq_append] at h0
      subst h0
      obtain ⟨hr, hx, -⟩ := h.init
      have hxb := hb x (by simp)
      have ih := size_cnt n k r (by simp at hk; exact hk) hr (fun y hy => hb y (by simp [hy]))
      have hc := cntN_snoc hxb.1 hx (fun i hi => h.lt_of hi) n
      rw [sizeR_snoc, ih, hc, if_neg (by omega)]
      split <;> omega
theorem Lst.bnd {l : List Rg} (h : Lst l) {n : Int} (hb : ∀ i, hasR l i → 0 ≤ i ∧ i < n) : ∀ x ∈ l, 0 ≤ x.1 ∧ x.2 ≤ n := fun x hx => by
  obtain ⟨h1, h2, h3⟩ := h.mem_fst hx
  have := hb _ h1
  have := hb _ h2
  omega
theorem Lst.none {l : List Rg} (h : Lst l) (hb : ∀ i, ¬ hasR l i) : l = [] := by
  cases l with
  | nil => rfl
  | cons x l => exact absurd (h.mem_fst (List.mem_cons_self)).1 (hb _)
theorem Lst.half (n : Int) : ∀ (k : Nat) (l : List Rg), l.length = k → Lst l → (∀ x ∈ l, 0 ≤ x.1 ∧ x.2 ≤ n) → 1 ≤ n → 2 * (l.length : Int) ≤ n + 1 ∧ (∀ r x, l = r ++ [x] → 2 * (l.length : Int) ≤ x.2 + 1)
  | 0, l, hk, _, _, hn => by
    obtain rfl : l = [] := List.eq_nil_of_length_eq_zero hk
    exact ⟨by simp; omega, fun r x h => by simp at h⟩
  | k + 1, l, hk, h, hb, hn => by
    rcases List.eq_nil_or_concat l with h0 | ⟨r, x, h0⟩
    · subst h0; simp at hk
    · rw [List.concat_eq_append] at h0
      subst h0
      obtain ⟨hr, hx, hg⟩ := h.init
      have hxb := hb x (by simp)
      obtain ⟨-, i2⟩ := Lst.half n k r (by simp at hk; exact hk) hr (fun y hy => hb y (by simp [hy])) hn
      have key : 2 * ((r ++ [x]).length : Int) ≤ x.2 + 1 := by
        rcases List.eq_nil_or_concat r with h1 | ⟨q, z, h1⟩
        · subst h1; simp; omega
        · rw [List.concat_eq_append] at h1
          have h2 := i2 q z h1
          have h3 := hg z (by rw [h1]; simp)
          simp only [List.length_append, List.length_cons, List.length_nil] at h2 ⊢
          push_cast
          push_cast at h2
          omega
      refine ⟨by omega, fun r' x' he => ?_⟩
      obtain ⟨-, h5⟩ := List.append_inj' he rfl
      have h6 : x = x' := by simpa using h5
      rw [← h6]
      exact key
theorem sumU_snocS : ∀ (l : List Rg) (s : Int) (x : Rg), sumU s (l ++ [x]) = (sumU s l + (x.2 - x.1)) % 18446744073709551616
  | [], s, x => rfl
  | y :: l, s, x => sumU_snocS l _ x
/-- sizes that stay small are summed as they are -/
theorem sumU_size (n : Int) (hn : n < 9223372036854775808) : ∀ (k : Nat) (l : List Rg), l.length = k → Lst l → (∀ x ∈ l, 0 ≤ x.1 ∧ x.2 ≤ n) → sumU 0 l = sizeR l ∧ 0 ≤ sizeR l ∧ (∀ r x, l = r ++ [x] → sizeR l ≤ x.2) ∧ (l = [] → sizeR l = 0)
  | 0, l, hk, _, _ => by
    obtain rfl : l = [] := List.eq_nil_of_length_eq_zero hk
    exact ⟨rfl, by decide, fun r x h => by simp at h, fun _ => rfl⟩
  | k + 1, l, hk, h, hb => by
    rcases List.eq_nil_or_concat l with h0 | ⟨r, x, h0⟩
    · subst h0; simp at hk
    · rw [List.concat_eq_append] at h0
      subst h0
      obtain ⟨hr, hx, hg⟩ := h.init
      have hxb := hb x (by simp)
      obtain ⟨i1, i2, i3, i4⟩ := sumU_size n hn k r (by simp at hk; exact hk) hr (fun y hy => hb y (by simp [hy]))
      have key : sizeR r ≤ x.1 := by
        rcases List.eq_nil_or_concat r with h1 | ⟨q, z, h1⟩
        · rw [i4 h1]; exact hxb.1
        · rw [List.concat_eq_append] at h1
          have h2 := i3 q z h1
          have h3 := hg z (by rw [h1]; simp)
          omega
      rw [sizeR_snoc]
      refine ⟨?_, by omega, fun r' x' he => ?_, fun he => by simp at he⟩
      · have hs : sumU 0 (r ++ [x]) = (sumU 0 r + (x.2 - x.1)) % 18446744073709551616 := sumU_snocS r 0 x
        rw [hs, i1]
        omega
      · obtain ⟨-, h5⟩ := List.append_inj' he rfl
        have h6 : x = x' := by simpa using h5
        rw [← h6]
        omega
end Go.Proofs.YtkjdeeamckmebaaDoor
namespace Go.Proofs.YtkjdeeamckmebaaDoor
set_option linter.unusedVariables false
set_option linter.unusedSimpArgs false
open Go.RowKit
theorem Lst.prev {l : List Rg} (h : Lst l) {j k : Nat} (hjk : j < k) (hk : k < l.length) : (l[j]'(by omega)).2 < l[k].1 := by
  have := List.pairwise_iff_getElem.1 h.gap j k (by omega) hk hjk
  exact this
section
set_option maxRecDepth 20000
set_option maxHeartbeats 3200000
theorem leastL_t (ao : Option Addr) (n cap : Nat) (xs : List Rg) (w : World) (hn : n = xs.length) (hx : RdR w ao xs) (hl : n ≤ 1099511627776) (hL : Lst xs) :
    Calls Tryd.prog 6 #[.slice ao n cap] w fun e w' => e = .returned (.bool true) ∧ Below w.heap.size w w' := by
  have HN : Hid (n = xs.length) := hn
  have HL : Hid (Lst xs) := hL
  clear hn hL
  go_enter Tryd.func6, Tryd.ntmps6
  go_wp2
  go_loopw [3] (fun j wr => ∃ k : Nat, k ≤ n ∧ j = .int .i64 (k : Int) ∧ Below w.heap.size w wr) (fun j _ => n - (intOf j).toNat)
  case atStart => exact ⟨0, Nat.zero_le _, rfl, Below.refl _ _⟩
  case round =>
    obtain ⟨k, hk, rfl, hbw⟩ := hrel
    have hkw : IntKind.i64.wrap ((k : Int) + 1) = ((k + 1 : Nat) : Int) := by rw [IntKind.wrap_i64]; omega
    by_cases hlt : k < n
    · have hk1 : k < xs.length := by rw [← HN.out]; exact hlt
      have hlti : (k : Int) < (n : Int) := by omega
      have hk0 : (0 : Int) ≤ (k : Int) := by omega
      obtain ⟨b, o, rfl, -, -⟩ := hx k hk1
      obtain ⟨x, hx9⟩ : ∃ x : Rg, x = xs[k] := ⟨_, rfl⟩
      have hc0 : ∀ u, Below w.heap.size w u → u.cell? ⟨b, o + k * 2, none⟩ = some (.int .i64 x.1) := fun u hu => by rw [hx9]; obtain ⟨b', o', e, h1, h2⟩ := (hx.below hu) k hk1; cases e; exact h1
      have hc1 : ∀ u, Below w.heap.size w u → u.cell? ⟨b, o + k * 2 + 1, none⟩ = some (.int .i64 x.2) := fun u hu => by rw [hx9]; obtain ⟨b', o', e, h1, h2⟩ := (hx.below hu) k hk1; cases e; exact h2
      have hpos : x.1 < x.2 := by rw [hx9]; exact HL.out.pos _ (List.getElem_mem hk1)
      have hge : ¬ x.2 ≤ x.1 := by omega
      have hged : decide (x.2 ≤ x.1) = false := decide_eq_false hge
      have HBW : Hid _ := hbw
      by_cases h0 : k = 0
      · subst h0
        have hd0 : ∀ u, Below w.heap.size w u → u.cell? ⟨b, o, none⟩ = some (.int .i64 x.1) := fun u hu => by have h9 := hc0 u hu; simpa using h9
        have hd1 : ∀ u, Below w.heap.size w u → u.cell? ⟨b, o + 1, none⟩ = some (.int .i64 x.2) := fun u hu => by have h9 := hc1 u hu; simpa using h9
        clear hx9 hpos
        go_wp2_with fail
        refine wp_region_noPanic ?_
        refine wp_region_held_drew (S := (fun u => Below w.heap.size w u)) (by kernel_rfl) (by first | exact hbw.drew | assumption) (fun hHeld => ?_)
        refine take_at (i := 0) 10 (v := ?_) rfl rfl (by kernel_rfl) (by kernel_rfl) (by kernel_rfl) (fun _ _ _ h => h) (by rfl) ?_ hHeld ?_
        rotate_left
        · (intro w hSw; (try dsimp only at hSw); go_simp; try with_reducible rfl)
        simp only [Act.put, List.setIfInBounds_toArray, List.set_cons_zero, List.set_cons_succ]
        refine take_at (i := 1) 11 (v := ?_) rfl rfl (by kernel_rfl) (by kernel_rfl) (by kernel_rfl) (fun _ _ _ h => h) (by rfl) ?_ hHeld ?_
        rotate_left
        · (intro w hSw; (try dsimp only at hSw); go_simp; try with_reducible rfl)
        simp only [Act.put, List.setIfInBounds_toArray, List.set_cons_zero, List.set_cons_succ]
        refine take_at (i := 2) 12 (v := ?_) rfl rfl (by kernel_rfl) (by kernel_rfl) (by kernel_rfl) (fun _ _ _ h => h) (by rfl) ?_ hHeld ?_
        rotate_left
        · (intro w hSw; (try dsimp only at hSw); go_simp; try with_reducible rfl)
        simp only [Act.put, List.setIfInBounds_toArray, List.set_cons_zero, List.set_cons_succ]
        refine take_at (i := 3) 13 (v := ?_) rfl rfl (by kernel_rfl) (by kernel_rfl) (by kernel_rfl) (fun _ _ _ h => h) (by rfl) ?_ hHeld ?_
        rotate_left
        · (intro w hSw; (try dsimp only at hSw); go_simp; try with_reducible rfl)
        simp only [Act.put, List.setIfInBounds_toArray, List.set_cons_zero, List.set_cons_succ]
        refine take_at (i := 4) 14 (v := ?_) rfl rfl (by kernel_rfl) (by kernel_rfl) (by kernel_rfl) (fun _ _ _ h => h) (by rfl) ?_ hHeld ?_
        rotate_left
        · (intro w hSw; have h9 := hd0 w hSw; (try dsimp only at hSw); go_simp; try with_reducible rfl)
        simp only [Act.put, List.setIfInBounds_toArray, List.set_cons_zero, List.set_cons_succ]
        refine take_at (i := 5) 15 (v := ?_) rfl rfl (by kernel_rfl) (by kernel_rfl) (by kernel_rfl) (fun _ _ _ h => h) (by rfl) ?_ hHeld ?_
        rotate_left
        · (intro w hSw; (try dsimp only at hSw); go_simp; try with_reducible rfl)
        simp only [Act.put, List.setIfInBounds_toArray, List.set_cons_zero, List.set_cons_succ]
        refine take_at (i := 6) 16 (v := ?_) rfl rfl (by kernel_rfl) (by kernel_rfl) (by kernel_rfl) (fun _ _ _ h => h) (by rfl) ?_ hHeld ?_
        rotate_left
        · (intro w hSw; (try dsimp only at hSw); go_simp; try with_reducible rfl)
        simp only [Act.put, List.setIfInBounds_toArray, List.set_cons_zero, List.set_cons_succ]
        refine take_at (i := 7) 17 (v := ?_) rfl rfl (by kernel_rfl) (by kernel_rfl) (by kernel_rfl) (fun _ _ _ h => h) (by rfl) ?_ hHeld ?_
        rotate_left
        · (intro w hSw; (try dsimp only at hSw); go_simp; try with_reducible rfl)
        simp only [Act.put, List.setIfInBounds_toArray, List.set_cons_zero, List.set_cons_succ]
        refine take_at (i := 8) 18 (v := ?_) rfl rfl (by kernel_rfl) (by kernel_rfl) (by kernel_rfl) (fun _ _ _ h => h) (by rfl) ?_ hHeld ?_
        rotate_left
        · (intro w hSw; (try dsimp only at hSw); go_simp; try with_reducible rfl)
        simp only [Act.put, List.setIfInBounds_toArray, List.set_cons_zero, List.set_cons_succ]
        refine take_at (i := 9) 19 (v := ?_) rfl rfl (by kernel_rfl) (by kernel_rfl) (by kernel_rfl) (fun _ _ _ h => h) (by rfl) ?_ hHeld ?_
        rotate_left
        · (intro w hSw; have h9 := hd1 w hSw; (try dsimp only at hSw); go_simp; try with_reducible rfl)
        simp only [Act.put, List.setIfInBounds_toArray, List.set_cons_zero, List.set_cons_succ]
        refine take_at (i := 10) 20 (v := ?_) rfl rfl (by kernel_rfl) (by kernel_rfl) (by kernel_rfl) (fun _ _ _ h => h) (by rfl) ?_ hHeld ?_
        rotate_left
        · (intro w hSw; (try dsimp only at hSw); go_simp; try with_reducible rfl)
        simp only [Act.put, List.setIfInBounds_toArray, List.set_cons_zero, List.set_cons_succ]
        refine take_at (i := 11) 21 (v := ?_) rfl rfl (by kernel_rfl) (by kernel_rfl) (by kernel_rfl) (fun _ _ _ h => h) (by rfl) ?_ hHeld ?_
        rotate_left
        · (intro w hSw; (try dsimp only at hSw); go_simp; try with_reducible rfl)
        simp only [Act.put, List.setIfInBounds_toArray, List.set_cons_zero, List.set_cons_succ]
        refine take_at (i := 12) 22 (v := ?_) rfl rfl (by kernel_rfl) (by kernel_rfl) (by kernel_rfl) (fun _ _ _ h => h) (by rfl) ?_ hHeld ?_
        rotate_left
        · (intro w hSw; (try dsimp only at hSw); go_simp; try with_reducible rfl)
        simp only [Act.put, List.setIfInBounds_toArray, List.set_cons_zero, List.set_cons_succ]
        refine take_at (i := 13) 23 (v := ?_) rfl rfl (by kernel_rfl) (by kernel_rfl) (by kernel_rfl) (fun _ _ _ h => h) (by rfl) ?_ hHeld ?_
        rotate_left
        · (intro w hSw; (try dsimp only at hSw); go_simp; try with_reducible rfl)
        simp only [Act.put, List.setIfInBounds_toArray, List.set_cons_zero, List.set_cons_succ]
        refine take_at (i := 14) 24 (v := ?_) rfl rfl (by kernel_rfl) (by kernel_rfl) (by kernel_rfl) (fun _ _ _ h => h) (by rfl) ?_ hHeld ?_
        rotate_left
        · (intro w hSw; (try dsimp only at hSw); go_simp; try with_reducible rfl)
        simp only [Act.put, List.setIfInBounds_toArray, List.set_cons_zero, List.set_cons_succ]
        refine skip_at (i := 15) 25 rfl rfl (by kernel_rfl) (by kernel_rfl) (by kernel_rfl) (fun _ _ _ h => h) (by rfl) hHeld ?_
        simp only [Act.put, List.setIfInBounds_toArray, List.set_cons_zero, List.set_cons_succ]
        refine skip_at (i := 16) 26 rfl rfl (by kernel_rfl) (by kernel_rfl) (by kernel_rfl) (fun _ _ _ h => h) (by rfl) hHeld ?_
        simp only [Act.put, List.setIfInBounds_toArray, List.set_cons_zero, List.set_cons_succ]
        refine skip_at (i := 17) 27 rfl rfl (by kernel_rfl) (by kernel_rfl) (by kernel_rfl) (fun _ _ _ h => h) (by rfl) hHeld ?_
        simp only [Act.put, List.setIfInBounds_toArray, List.set_cons_zero, List.set_cons_succ]
        refine skip_at (i := 18) 28 rfl rfl (by kernel_rfl) (by kernel_rfl) (by kernel_rfl) (fun _ _ _ h => h) (by rfl) hHeld ?_
        simp only [Act.put, List.setIfInBounds_toArray, List.set_cons_zero, List.set_cons_succ]
        refine skip_at (i := 19) 29 rfl rfl (by kernel_rfl) (by kernel_rfl) (by kernel_rfl) (fun _ _ _ h => h) (by rfl) hHeld ?_
        simp only [Act.put, List.setIfInBounds_toArray, List.set_cons_zero, List.set_cons_succ]
        refine skip_at (i := 20) 30 rfl rfl (by kernel_rfl) (by kernel_rfl) (by kernel_rfl) (fun _ _ _ h => h) (by rfl) hHeld ?_
        simp only [Act.put, List.setIfInBounds_toArray, List.set_cons_zero, List.set_cons_succ]
        refine skip_at (i := 21) 31 rfl rfl (by kernel_rfl) (by kernel_rfl) (by kernel_rfl) (fun _ _ _ h => h) (by rfl) hHeld ?_
        simp only [Act.put, List.setIfInBounds_toArray, List.set_cons_zero, List.set_cons_succ]
        refine skip_at (i := 22) 32 rfl rfl (by kernel_rfl) (by kernel_rfl) (by kernel_rfl) (fun _ _ _ h => h) (by rfl) hHeld ?_
        simp only [Act.put, List.setIfInBounds_toArray, List.set_cons_zero, List.set_cons_succ]
        refine skip_at (i := 23) 33 rfl rfl (by kernel_rfl) (by kernel_rfl) (by kernel_rfl) (fun _ _ _ h => h) (by rfl) hHeld ?_
        simp only [Act.put, List.setIfInBounds_toArray, List.set_cons_zero, List.set_cons_succ]
        refine skip_at (i := 24) 34 rfl rfl (by kernel_rfl) (by kernel_rfl) (by kernel_rfl) (fun _ _ _ h => h) (by rfl) hHeld ?_
        simp only [Act.put, List.setIfInBounds_toArray, List.set_cons_zero, List.set_cons_succ]
        refine skip_at (i := 25) 35 rfl rfl (by kernel_rfl) (by kernel_rfl) (by kernel_rfl) (fun _ _ _ h => h) (by rfl) hHeld ?_
        simp only [Act.put, List.setIfInBounds_toArray, List.set_cons_zero, List.set_cons_succ]
        refine skip_at (i := 26) 36 rfl rfl (by kernel_rfl) (by kernel_rfl) (by kernel_rfl) (fun _ _ _ h => h) (by rfl) hHeld ?_
        simp only [Act.put, List.setIfInBounds_toArray, List.set_cons_zero, List.set_cons_succ]
        refine take_at (i := 27) 37 (v := ?_) rfl rfl (by kernel_rfl) (by kernel_rfl) (by kernel_rfl) (fun _ _ _ h => h) (by rfl) ?_ hHeld ?_
        rotate_left
        · (intro w hSw; (try dsimp only at hSw); go_simp; try with_reducible rfl)
        simp only [Act.put, List.setIfInBounds_toArray, List.set_cons_zero, List.set_cons_succ]
        refine take_at (i := 28) 38 (v := ?_) rfl rfl (by kernel_rfl) (by kernel_rfl) (by kernel_rfl) (fun _ _ _ h => h) (by rfl) ?_ hHeld ?_
        rotate_left
        · (intro w hSw; (try dsimp only at hSw); go_simp; try with_reducible rfl)
        simp only [Act.put, List.setIfInBounds_toArray, List.set_cons_zero, List.set_cons_succ]
        refine wpAnyH_done (by kernel_rfl) ?_ _
        refine NoPanic.normal ?_
        go_wp2
        go_roundw
        case rel => exact ⟨0 + 1, by omega, by go_num, HBW.out.drew⟩
        case measure => simp [intOf]; omega
      · obtain ⟨j, hj⟩ : ∃ j : Nat, j + 1 = k := ⟨k - 1, by omega⟩
        have hjw : IntKind.i64.wrap ((k : Int) - 1) = (j : Int) := by rw [IntKind.wrap_i64]; omega
        have hj1 : j < xs.length := by omega
        have hjI : (j : Int) < (n : Int) := by omega
        have hj0 : (0 : Int) ≤ (j : Int) := by omega
        have hjn : j < n := by omega
        have hkp : (0 : Int) < (k : Int) := by omega
        have hkn : 0 < k := by omega
        obtain ⟨p2, hp9⟩ : ∃ p : Int, p = (xs[j]).2 := ⟨_, rfl⟩
        have hcp : ∀ u, Below w.heap.size w u → u.cell? ⟨b, o + j * 2 + 1, none⟩ = some (.int .i64 p2) := fun u hu => by rw [hp9]; obtain ⟨b', o', e, h1, h2⟩ := (hx.below hu) j hj1; cases e; exact h2
        have hprev : p2 < x.1 := by rw [hp9, hx9]; exact HL.out.prev (by omega) hk1
        have hpd : decide (x.1 ≤ p2) = false := decide_eq_false (by omega)
        have hpn : ¬ x.1 ≤ p2 := by omega
        clear hx9 hpos hp9 hprev hj h0
        go_wp2_with fail
        refine wp_region_noPanic ?_
        refine wp_region_held_drew (S := (fun u => Below w.heap.size w u)) (by kernel_rfl) (by first | exact hbw.drew | assumption) (fun hHeld => ?_)
        refine take_at (i := 0) 10 (v := ?_) rfl rfl (by kernel_rfl) (by kernel_rfl) (by kernel_rfl) (fun _ _ _ h => h) (by rfl) ?_ hHeld ?_
        rotate_left
        · (intro w hSw; (try dsimp only at hSw); go_simp; try with_reducible rfl)
        simp only [Act.put, List.setIfInBounds_toArray, List.set_cons_zero, List.set_cons_succ]
        refine take_at (i := 1) 11 (v := ?_) rfl rfl (by kernel_rfl) (by kernel_rfl) (by kernel_rfl) (fun _ _ _ h => h) (by rfl) ?_ hHeld ?_
        rotate_left
        · (intro w hSw; (try dsimp only at hSw); go_simp; try with_reducible rfl)
        simp only [Act.put, List.setIfInBounds_toArray, List.set_cons_zero, List.set_cons_succ]
        refine take_at (i := 2) 12 (v := ?_) rfl rfl (by kernel_rfl) (by kernel_rfl) (by kernel_rfl) (fun _ _ _ h => h) (by rfl) ?_ hHeld ?_
        rotate_left
        · (intro w hSw; (try dsimp only at hSw); go_simp; try with_reducible rfl)
        simp only [Act.put, List.setIfInBounds_toArray, List.set_cons_zero, List.set_cons_succ]
        refine take_at (i := 3) 13 (v := ?_) rfl rfl (by kernel_rfl) (by kernel_rfl) (by kernel_rfl) (fun _ _ _ h => h) (by rfl) ?_ hHeld ?_
        rotate_left
        · (intro w hSw; (try dsimp only at hSw); go_simp; try with_reducible rfl)
        simp only [Act.put, List.setIfInBounds_toArray, List.set_cons_zero, List.set_cons_succ]
        refine take_at (i := 4) 14 (v := ?_) rfl rfl (by kernel_rfl) (by kernel_rfl) (by kernel_rfl) (fun _ _ _ h => h) (by rfl) ?_ hHeld ?_
        rotate_left
        · (intro w hSw; have h9 := hc0 w hSw; (try dsimp only at hSw); go_simp; try with_reducible rfl)
        simp only [Act.put, List.setIfInBounds_toArray, List.set_cons_zero, List.set_cons_succ]
        refine take_at (i := 5) 15 (v := ?_) rfl rfl (by kernel_rfl) (by kernel_rfl) (by kernel_rfl) (fun _ _ _ h => h) (by rfl) ?_ hHeld ?_
        rotate_left
        · (intro w hSw; (try dsimp only at hSw); go_simp; try with_reducible rfl)
        simp only [Act.put, List.setIfInBounds_toArray, List.set_cons_zero, List.set_cons_succ]
        refine take_at (i := 6) 16 (v := ?_) rfl rfl (by kernel_rfl) (by kernel_rfl) (by kernel_rfl) (fun _ _ _ h => h) (by rfl) ?_ hHeld ?_
        rotate_left
        · (intro w hSw; (try dsimp only at hSw); go_simp; try with_reducible rfl)
        simp only [Act.put, List.setIfInBounds_toArray, List.set_cons_zero, List.set_cons_succ]
        refine take_at (i := 7) 17 (v := ?_) rfl rfl (by kernel_rfl) (by kernel_rfl) (by kernel_rfl) (fun _ _ _ h => h) (by rfl) ?_ hHeld ?_
        rotate_left
        · (intro w hSw; (try dsimp only at hSw); go_simp; try with_reducible rfl)
        simp only [Act.put, List.setIfInBounds_toArray, List.set_cons_zero, List.set_cons_succ]
        refine take_at (i := 8) 18 (v := ?_) rfl rfl (by kernel_rfl) (by kernel_rfl) (by kernel_rfl) (fun _ _ _ h => h) (by rfl) ?_ hHeld ?_
        rotate_left
        · (intro w hSw; (try dsimp only at hSw); go_simp; try with_reducible rfl)
        simp only [Act.put, List.setIfInBounds_toArray, List.set_cons_zero, List.set_cons_succ]
        refine take_at (i := 9) 19 (v := ?_) rfl rfl (by kernel_rfl) (by kernel_rfl) (by kernel_rfl) (fun _ _ _ h => h) (by rfl) ?_ hHeld ?_
        rotate_left
        · (intro w hSw; have h9 := hc1 w hSw; (try dsimp only at hSw); go_simp; try with_reducible rfl)
        simp only [Act.put, List.setIfInBounds_toArray, List.set_cons_zero, List.set_cons_succ]
        refine take_at (i := 10) 20 (v := ?_) rfl rfl (by kernel_rfl) (by kernel_rfl) (by kernel_rfl) (fun _ _ _ h => h) (by rfl) ?_ hHeld ?_
        rotate_left
        · (intro w hSw; (try dsimp only at hSw); go_simp; try with_reducible rfl)
        simp only [Act.put, List.setIfInBounds_toArray, List.set_cons_zero, List.set_cons_succ]
        refine take_at (i := 11) 21 (v := ?_) rfl rfl (by kernel_rfl) (by kernel_rfl) (by kernel_rfl) (fun _ _ _ h => h) (by rfl) ?_ hHeld ?_
        rotate_left
        · (intro w hSw; (try dsimp only at hSw); go_simp; try with_reducible rfl)
        simp only [Act.put, List.setIfInBounds_toArray, List.set_cons_zero, List.set_cons_succ]
        refine take_at (i := 12) 22 (v := ?_) rfl rfl (by kernel_rfl) (by kernel_rfl) (by kernel_rfl) (fun _ _ _ h => h) (by rfl) ?_ hHeld ?_
        rotate_left
        · (intro w hSw; (try dsimp only at hSw); go_simp; try with_reducible rfl)
        simp only [Act.put, List.setIfInBounds_toArray, List.set_cons_zero, List.set_cons_succ]
        refine take_at (i := 13) 23 (v := ?_) rfl rfl (by kernel_rfl) (by kernel_rfl) (by kernel_rfl) (fun _ _ _ h => h) (by rfl) ?_ hHeld ?_
        rotate_left
        · (intro w hSw; (try dsimp only at hSw); go_simp; try with_reducible rfl)
        simp only [Act.put, List.setIfInBounds_toArray, List.set_cons_zero, List.set_cons_succ]
        refine take_at (i := 14) 24 (v := ?_) rfl rfl (by kernel_rfl) (by kernel_rfl) (by kernel_rfl) (fun _ _ _ h => h) (by rfl) ?_ hHeld ?_
        rotate_left
        · (intro w hSw; (try dsimp only at hSw); go_simp; try with_reducible rfl)
        simp only [Act.put, List.setIfInBounds_toArray, List.set_cons_zero, List.set_cons_succ]
        refine take_at (i := 15) 25 (v := ?_) rfl rfl (by kernel_rfl) (by kernel_rfl) (by kernel_rfl) (fun _ _ _ h => h) (by rfl) ?_ hHeld ?_
        rotate_left
        · (intro w hSw; (try dsimp only at hSw); go_simp; try with_reducible rfl)
        simp only [Act.put, List.setIfInBounds_toArray, List.set_cons_zero, List.set_cons_succ]
        refine take_at (i := 16) 26 (v := ?_) rfl rfl (by kernel_rfl) (by kernel_rfl) (by kernel_rfl) (fun _ _ _ h => h) (by rfl) ?_ hHeld ?_
        rotate_left
        · (intro w hSw; (try dsimp only at hSw); go_simp; try with_reducible rfl)
        simp only [Act.put, List.setIfInBounds_toArray, List.set_cons_zero, List.set_cons_succ]
        refine take_at (i := 17) 27 (v := ?_) rfl rfl (by kernel_rfl) (by kernel_rfl) (by kernel_rfl) (fun _ _ _ h => h) (by rfl) ?_ hHeld ?_
        rotate_left
        · (intro w hSw; (try dsimp only at hSw); go_simp; try with_reducible rfl)
        simp only [Act.put, List.setIfInBounds_toArray, List.set_cons_zero, List.set_cons_succ]
        refine take_at (i := 18) 28 (v := ?_) rfl rfl (by kernel_rfl) (by kernel_rfl) (by kernel_rfl) (fun _ _ _ h => h) (by rfl) ?_ hHeld ?_
        rotate_left
        · (intro w hSw; (try dsimp only at hSw); go_simp; try with_reducible rfl)
        simp only [Act.put, List.setIfInBounds_toArray, List.set_cons_zero, List.set_cons_succ]
        refine take_at (i := 19) 29 (v := ?_) rfl rfl (by kernel_rfl) (by kernel_rfl) (by kernel_rfl) (fun _ _ _ h => h) (by rfl) ?_ hHeld ?_
        rotate_left
        · (intro w hSw; have h9 := hc0 w hSw; (try dsimp only at hSw); go_simp; try with_reducible rfl)
        simp only [Act.put, List.setIfInBounds_toArray, List.set_cons_zero, List.set_cons_succ]
        refine take_at (i := 20) 30 (v := ?_) rfl rfl (by kernel_rfl) (by kernel_rfl) (by kernel_rfl) (fun _ _ _ h => h) (by rfl) ?_ hHeld ?_
        rotate_left
        · (intro w hSw; (try dsimp only at hSw); go_simp; try with_reducible rfl)
        simp only [Act.put, List.setIfInBounds_toArray, List.set_cons_zero, List.set_cons_succ]
        refine take_at (i := 21) 31 (v := ?_) rfl rfl (by kernel_rfl) (by kernel_rfl) (by kernel_rfl) (fun _ _ _ h => h) (by rfl) ?_ hHeld ?_
        rotate_left
        · (intro w hSw; (try dsimp only at hSw); go_simp; try with_reducible rfl)
        simp only [Act.put, List.setIfInBounds_toArray, List.set_cons_zero, List.set_cons_succ]
        refine take_at (i := 22) 32 (v := ?_) rfl rfl (by kernel_rfl) (by kernel_rfl) (by kernel_rfl) (fun _ _ _ h => h) (by rfl) ?_ hHeld ?_
        rotate_left
        · (intro w hSw; (try dsimp only at hSw); go_simp; try with_reducible rfl)
        simp only [Act.put, List.setIfInBounds_toArray, List.set_cons_zero, List.set_cons_succ]
        refine take_at (i := 23) 33 (v := ?_) rfl rfl (by kernel_rfl) (by kernel_rfl) (by kernel_rfl) (fun _ _ _ h => h) (by rfl) ?_ hHeld ?_
        rotate_left
        · (intro w hSw; (try dsimp only at hSw); go_simp; try with_reducible rfl)
        simp only [Act.put, List.setIfInBounds_toArray, List.set_cons_zero, List.set_cons_succ]
        refine take_at (i := 24) 34 (v := ?_) rfl rfl (by kernel_rfl) (by kernel_rfl) (by kernel_rfl) (fun _ _ _ h => h) (by rfl) ?_ hHeld ?_
        rotate_left
        · (intro w hSw; (try dsimp only at hSw); go_simp; try with_reducible rfl)
        simp only [Act.put, List.setIfInBounds_toArray, List.set_cons_zero, List.set_cons_succ]
        refine take_at (i := 25) 35 (v := ?_) rfl rfl (by kernel_rfl) (by kernel_rfl) (by kernel_rfl) (fun _ _ _ h => h) (by rfl) ?_ hHeld ?_
        rotate_left
        · (intro w hSw; have h9 := hcp w hSw; (try dsimp only at hSw); go_simp; try with_reducible rfl)
        simp only [Act.put, List.setIfInBounds_toArray, List.set_cons_zero, List.set_cons_succ]
        refine take_at (i := 26) 36 (v := ?_) rfl rfl (by kernel_rfl) (by kernel_rfl) (by kernel_rfl) (fun _ _ _ h => h) (by rfl) ?_ hHeld ?_
        rotate_left
        · (intro w hSw; (try dsimp only at hSw); go_simp; try with_reducible rfl)
        simp only [Act.put, List.setIfInBounds_toArray, List.set_cons_zero, List.set_cons_succ]
        refine take_at (i := 27) 37 (v := ?_) rfl rfl (by kernel_rfl) (by kernel_rfl) (by kernel_rfl) (fun _ _ _ h => h) (by rfl) ?_ hHeld ?_
        rotate_left
        · (intro w hSw; (try dsimp only at hSw); go_simp; try with_reducible rfl)
        simp only [Act.put, List.setIfInBounds_toArray, List.set_cons_zero, List.set_cons_succ]
        refine take_at (i := 28) 38 (v := ?_) rfl rfl (by kernel_rfl) (by kernel_rfl) (by kernel_rfl) (fun _ _ _ h => h) (by rfl) ?_ hHeld ?_
        rotate_left
        · (intro w hSw; (try dsimp only at hSw); go_simp; try with_reducible rfl)
        simp only [Act.put, List.setIfInBounds_toArray, List.set_cons_zero, List.set_cons_succ]
        refine wpAnyH_done (by kernel_rfl) ?_ _
        refine NoPanic.normal ?_
        go_wp2
        go_roundw
        case rel => exact ⟨k + 1, by omega, by go_num, HBW.out.drew⟩
        case measure => simp [intOf]; omega
    · have hlti : ¬ (k : Int) < (n : Int) := by omega
      go_wp2
      go_ret
      exact ⟨rfl, hbw⟩
end
end Go.Proofs.YtkjdeeamckmebaaDoor
