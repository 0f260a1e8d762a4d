import Derived.Test.YtibolgpaolnheaaQS
import Derived.Test.YtibolgpaolnheaaZQC
namespace Go.Proofs.Ytibolgpaolnheaa.Str
set_option linter.unusedVariables false
set_option linter.unusedSimpArgs false
open Go.RowKit
section
set_option maxRecDepth 20000
/-- the second closure: is entry i not below s? -/
theorem place2_t (g3 g9 : Nat) (s : St) (ao : Option Addr) (n cap : Nat) (xs : List Ent) (i : Nat) (w : World) (hn : n = xs.length) (hi : i < n) (h3 : w.rangeAt g3 0 (sc s)) (h9 : w.cell? ⟨g9, 0, none⟩ = some (.slice ao n cap)) (hx : RdE w ao xs) :
    Calls Try.prog 51 #[.int .i64 (i : Int), .pointer (some ⟨g9, 0, none⟩), .pointer (some ⟨g3, 0, none⟩)] w fun e w' => e = .returned (.bool (!ltS ((xs.map (·.st)).getD i (0, 0)) s)) ∧ Below w.heap.size w w' := by
  have hiP : i < xs.length := by omega
  have eP : (xs.map (·.st)).getD i (0, 0) = xs[i].st := by simp [List.getD, hiP]
  obtain ⟨b, o, rfl, hr2, -⟩ := hx i hiP
  rw [eP]
  obtain ⟨st, hst⟩ : ∃ st, st = xs[i].st := ⟨_, rfl⟩
  have hr3 := range_st hr2
  rw [← hst] at hr3 ⊢
  have hl3 : ∀ u, Below w.heap.size w u → (Instr.loadAt tSt (.pointer (some ⟨g3, 0, none⟩))).run Try.prog u = .ok (sv s) u := fun u hu => load_st u _ _ s (rangeAt_below h3 hu)
  have hl4 : ∀ u, Below w.heap.size w u → (Instr.loadAt tSt (.pointer (some ⟨b, o + i * 3, none⟩))).run Try.prog u = .ok (sv st) u := fun u hu => load_st u _ _ st (rangeAt_below hr3 hu)
  have hc9 : ∀ u, Below w.heap.size w u → u.cell? ⟨g9, 0, none⟩ = some (.slice (some ⟨b, o, none⟩) n cap) := fun u hu => (hu.cell (World.block_lt_of_cell? w _ h9)).trans h9
  have hii : (i : Int) < (n : Int) := by omega
  have hi0 : (0 : Int) ≤ (i : Int) := by omega
  clear hn hx eP hr2 hr3 hst h9 h3
  go_enter Try.func51, Try.ntmps51
  go_wp2_with fail
  refine wp_region_noPanic ?_
  refine wp_region_held_drew (S := (fun u => Below w.heap.size w u)) (by kernel_rfl) (by first | exact (Below.refl _ _).drew | assumption) (fun hHeld => ?_)
  refine take_at (i := 0) 5 (v := ?_) rfl rfl (by kernel_rfl) (by kernel_rfl) (by kernel_rfl) (fun _ _ _ h => h) (by rfl) ?_ hHeld ?_
  rotate_left
  · (intro w hSw; have h9 := hc9 w hSw; (try dsimp only at hSw); go_simp; try with_reducible rfl)
  simp only [Act.put, List.setIfInBounds_toArray, List.set_cons_zero, List.set_cons_succ]
  refine take_at (i := 1) 6 (v := ?_) rfl rfl (by kernel_rfl) (by kernel_rfl) (by kernel_rfl) (fun _ _ _ h => h) (by rfl) ?_ hHeld ?_
  rotate_left
  · (intro w hSw; (try dsimp only at hSw); go_simp; try with_reducible rfl)
  simp only [Act.put, List.setIfInBounds_toArray, List.set_cons_zero, List.set_cons_succ]
  refine take_at (i := 2) 7 (v := ?_) rfl rfl (by kernel_rfl) (by kernel_rfl) (by kernel_rfl) (fun _ _ _ h => h) (by rfl) ?_ hHeld ?_
  rotate_left
  · (intro w hSw; (try dsimp only at hSw); go_simp; try with_reducible rfl)
  simp only [Act.put, List.setIfInBounds_toArray, List.set_cons_zero, List.set_cons_succ]
  refine take_at (i := 3) 8 (v := ?_) rfl rfl (by kernel_rfl) (by kernel_rfl) (by kernel_rfl) (fun _ _ _ h => h) (by rfl) ?_ hHeld ?_
  rotate_left
  · (intro w hSw; (try dsimp only at hSw); go_simp; try with_reducible rfl)
  simp only [Act.put, List.setIfInBounds_toArray, List.set_cons_zero, List.set_cons_succ]
  refine take_at (i := 4) 9 (v := sv st) rfl rfl (by kernel_rfl) (by kernel_rfl) (by kernel_rfl) (fun _ _ _ h => h) (by rfl) ?_ hHeld ?_
  · (intro w hSw; refine exec_load (by rfl) ?_; exact hl4 w hSw)
  simp only [Act.put, List.setIfInBounds_toArray, List.set_cons_zero, List.set_cons_succ]
  refine take_at (i := 5) 10 (v := sv s) rfl rfl (by kernel_rfl) (by kernel_rfl) (by kernel_rfl) (fun _ _ _ h => h) (by rfl) ?_ hHeld ?_
  · (intro w hSw; refine exec_load (by rfl) ?_; exact hl3 w hSw)
  simp only [Act.put, List.setIfInBounds_toArray, List.set_cons_zero, List.set_cons_succ]
  refine run_at (i := 6) rfl (by kernel_rfl) (by rfl) (fun K hK => ?_)
  simp only [List.getElem_toArray, List.getElem_cons_zero, List.getElem_cons_succ]
  go_simp
  (go_at_call 30; refine Calls.mono (less_t st s _) ?_; rintro e w1 ⟨rfl, hb1⟩; have hS1 : Below w.heap.size w w1 := below_next (Below.refl _ _).drew hb1)
  go_wp2_with fail
  refine hK.out _ _ (by first | exact (Below.refl _ _).drew | assumption) ?_
  clear hK K
  intro hHeld2
  clear hHeld
  have hHeld := hHeld2
  clear hHeld2
  try simp only [Act.put, List.setIfInBounds_toArray, List.set_cons_zero, List.set_cons_succ]
  refine take_at (i := 7) 12 (v := ?_) rfl rfl (by kernel_rfl) (by kernel_rfl) (by kernel_rfl) (fun _ _ _ h => h) (by rfl) ?_ hHeld ?_
  rotate_left
  · (intro w hSw; (try dsimp only at hSw); go_simp; try with_reducible rfl)
  simp only [Act.put, List.setIfInBounds_toArray, List.set_cons_zero, List.set_cons_succ]
  refine take_at (i := 8) 4 (v := ?_) rfl rfl (by kernel_rfl) (by kernel_rfl) (by kernel_rfl) (fun _ _ _ h => h) (by rfl) ?_ hHeld ?_
  rotate_left
  · (intro w hSw; (try dsimp only at hSw); go_simp; try with_reducible rfl)
  simp only [Act.put, List.setIfInBounds_toArray, List.set_cons_zero, List.set_cons_succ]
  refine wpAnyH_done (by kernel_rfl) ?_ _
  refine NoPanic.normal ?_
  go_wp2
  go_ret
  exact ⟨rfl, by assumption⟩
set_option maxHeartbeats 1600000 in
theorem search1_t (c1 c2 : Value) (n : Nat) (p : Nat → Bool) (w : World) (hl : n ≤ 4398046511104) (hm : ∀ a b, a ≤ b → b < n → p a = true → p b = true)
    (HC : ∀ (i : Nat) (u : World), i < n → Below w.heap.size w u → Calls Try.prog 50 #[.int .i64 (i : Int), c1, c2] u fun e w' => e = .returned (.bool (p i)) ∧ Below u.heap.size u w') :
    Calls Try.prog 46 #[.int .i64 (n : Int), .func (.func 50) #[] #[c1, c2]] w fun e w' => ∃ r : Nat, e = .returned (.int .i64 (r : Int)) ∧ Found n p r ∧ Below w.heap.size w w' := by
  have HCC : Hid _ := HC
  have HM : Hid _ := hm
  clear HC hm
  go_enter Try.func46, Try.ntmps46
  go_wp2
  go_loopw [5, 6, 7] (fun iv jv _ wr => ∃ i j : Nat, iv = .int .i64 (i : Int) ∧ jv = .int .i64 (j : Int) ∧ i ≤ j ∧ j ≤ n ∧ (∀ k, k < i → p k = false) ∧ (∀ k, j ≤ k → k < n → p k = true) ∧ Below w.heap.size w wr) (fun iv jv _ _ => (intOf jv).toNat - (intOf iv).toNat)
  case atStart => exact ⟨0, n, rfl, rfl, Nat.zero_le _, Nat.le_refl _, fun k hk => absurd hk (Nat.not_lt_zero _), fun k h1 h2 => by omega, Below.refl _ _⟩
  case round =>
    obtain ⟨i, j, rfl, rfl, hij, hjn, hlo, hhi, hbw⟩ := hrel
    have HLO : Hid _ := hlo
    have HHI : Hid _ := hhi
    have HBW : Hid _ := hbw
    clear hlo hhi hbw
    by_cases hlt : i < j
    · have hlti : (i : Int) < (j : Int) := by omega
      obtain ⟨M, hM⟩ : ∃ M : Nat, M = i + j := ⟨_, rfl⟩
      obtain ⟨H, hH⟩ : ∃ H : Nat, H = M / 2 := ⟨_, rfl⟩
      have hwM : IntKind.i64.wrap ((i : Int) + (j : Int)) = (M : Int) := by rw [IntKind.wrap_i64]; omega
      have hwu : IntKind.u64.wrap (M : Int) = (M : Int) := by rw [IntKind.wrap_u64]; omega
      have hdv : (M : Int) / 2 = (H : Int) := by omega
      have hwh : wrap64 (H : Int) = (H : Int) := by unfold wrap64; omega
      obtain ⟨H1, hH1⟩ : ∃ H1 : Nat, H1 = H + 1 := ⟨_, rfl⟩
      have hw1 : IntKind.i64.wrap ((H : Int) + 1) = (H1 : Int) := by rw [IntKind.wrap_i64]; omega
      have HH1 : Hid (H1 = H + 1) := hH1
      have hiH : i ≤ H := by omega
      have hHj : H < j := by omega
      have HMM : Hid (M = i + j ∧ H = M / 2) := ⟨hM, hH⟩
      have HCH : Hid _ := HCC.out H wr (by omega) HBW.out
      clear hM hH hH1
      go_wp2_with fail
      refine Calls.mono HCH.out ?_
      rintro e w1 ⟨rfl, hb1⟩
      have HB1 : Hid _ := below_next HBW.out hb1
      clear hb1
      cases hp : p H
      · have HP : Hid _ := hp
        clear hp
        go_wp2
        go_roundw
        case rel =>
          refine ⟨H1, j, rfl, rfl, by have := HH1.out; omega, hjn, fun k hk => ?_, HHI.out, HB1.out⟩
          cases hpk : p k
          · rfl
          · have h9 := HM.out k H (by have := HH1.out; omega) (by omega) hpk
            rw [HP.out] at h9
            cases h9
        case measure => have := HH1.out; simp [intOf]; omega
      · have HP : Hid _ := hp
        clear hp
        go_wp2
        go_roundw
        case rel => exact ⟨i, H, rfl, rfl, hiH, by omega, HLO.out, fun k h1 h2 => HM.out H k h1 h2 HP.out, HB1.out⟩
        case measure => simp [intOf]; omega
    · obtain rfl : i = j := by omega
      go_wp2
      go_ret
      exact ⟨i, rfl, ⟨hjn, HLO.out, HHI.out⟩, HBW.out⟩

set_option maxHeartbeats 1600000 in
theorem search2_t (c1 c2 : Value) (n : Nat) (p : Nat → Bool) (w : World) (hl : n ≤ 4398046511104) (hm : ∀ a b, a ≤ b → b < n → p a = true → p b = true)
    (HC : ∀ (i : Nat) (u : World), i < n → Below w.heap.size w u → Calls Try.prog 51 #[.int .i64 (i : Int), c1, c2] u fun e w' => e = .returned (.bool (p i)) ∧ Below u.heap.size u w') :
    Calls Try.prog 46 #[.int .i64 (n : Int), .func (.func 51) #[] #[c1, c2]] w fun e w' => ∃ r : Nat, e = .returned (.int .i64 (r : Int)) ∧ Found n p r ∧ Below w.heap.size w w' := by
  have HCC : Hid _ := HC
  have HM : Hid _ := hm
  clear HC hm
  go_enter Try.func46, Try.ntmps46
  go_wp2
  go_loopw [5, 6, 7] (fun iv jv _ wr => ∃ i j : Nat, iv = .int .i64 (i : Int) ∧ jv = .int .i64 (j : Int) ∧ i ≤ j ∧ j ≤ n ∧ (∀ k, k < i → p k = false) ∧ (∀ k, j ≤ k → k < n → p k = true) ∧ Below w.heap.size w wr) (fun iv jv _ _ => (intOf jv).toNat - (intOf iv).toNat)
  case atStart => exact ⟨0, n, rfl, rfl, Nat.zero_le _, Nat.le_refl _, fun k hk => absurd hk (Nat.not_lt_zero _), fun k h1 h2 => by omega, Below.refl _ _⟩
  case round =>
    obtain ⟨i, j, rfl, rfl, hij, hjn, hlo, hhi, hbw⟩ := hrel
    have HLO : Hid _ := hlo
    have HHI : Hid _ := hhi
    have HBW : Hid _ := hbw
    clear hlo hhi hbw
    by_cases hlt : i < j
    · have hlti : (i : Int) < (j : Int) := by omega
      obtain ⟨M, hM⟩ : ∃ M : Nat, M = i + j := ⟨_, rfl⟩
      obtain ⟨H, hH⟩ : ∃ H : Nat, H = M / 2 := ⟨_, rfl⟩
      have hwM : IntKind.i64.wrap ((i : Int) + (j : Int)) = (M : Int) := by rw [IntKind.wrap_i64]; omega
      have hwu : IntKind.u64.wrap (M : Int) = (M : Int) := by rw [IntKind.wrap_u64]; omega
      have hdv : (M : Int) / 2 = (H : Int) := by omega
      have hwh : wrap64 (H : Int) = (H : Int) := by unfold wrap64; omega
      obtain ⟨H1, hH1⟩ : ∃ H1 : Nat, H1 = H + 1 := ⟨_, rfl⟩
      have hw1 : IntKind.i64.wrap ((H : Int) + 1) = (H1 : Int) := by rw [IntKind.wrap_i64]; omega
      have HH1 : Hid (H1 = H + 1) := hH1
      have hiH : i ≤ H := by omega
      have hHj : H < j := by omega
      have HMM : Hid (M = i + j ∧ H = M / 2) := ⟨hM, hH⟩
      have HCH : Hid _ := HCC.out H wr (by omega) HBW.out
      clear hM hH hH1
      go_wp2_with fail
      refine Calls.mono HCH.out ?_
      rintro e w1 ⟨rfl, hb1⟩
      have HB1 : Hid _ := below_next HBW.out hb1
      clear hb1
      cases hp : p H
      · have HP : Hid _ := hp
        clear hp
        go_wp2
        go_roundw
        case rel =>
          refine ⟨H1, j, rfl, rfl, by have := HH1.out; omega, hjn, fun k hk => ?_, HHI.out, HB1.out⟩
          cases hpk : p k
          · rfl
          · have h9 := HM.out k H (by have := HH1.out; omega) (by omega) hpk
            rw [HP.out] at h9
            cases h9
        case measure => have := HH1.out; simp [intOf]; omega
      · have HP : Hid _ := hp
        clear hp
        go_wp2
        go_roundw
        case rel => exact ⟨i, H, rfl, rfl, hiH, by omega, HLO.out, fun k h1 h2 => HM.out H k h1 h2 HP.out, HB1.out⟩
        case measure => simp [intOf]; omega
    · obtain rfl : i = j := by omega
      go_wp2
      go_ret
      exact ⟨i, rfl, ⟨hjn, HLO.out, HHI.out⟩, HBW.out⟩

end
end Go.Proofs.Ytibolgpaolnheaa.Str
