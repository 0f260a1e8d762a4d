import Derived.Test.YtkdgjfjcpgiokaaGreatLxS
namespace Go.Proofs.YtkdgjfjcpgiokaaGreat
set_option linter.unusedVariables false
set_option linter.unusedSimpArgs false
open Go.RowKit Go.Maps
def valN (a b : Int) : Prop := (1 ≤ a ∧ a ≤ 64) ∧ (1 ≤ b ∧ b ≤ 4096)
section
set_option maxRecDepth 20000
set_option maxHeartbeats 3200000
theorem both_no (a b : Int) (h : ¬ valN a b) (w : World) : Calls Tryz.prog 11 #[.int .i64 a, .int .i64 b] w fun e w' => e = .returned (.tuple #[.pointer none, .pointer none, .bool true]) ∧ w' = w := by
  have H1 : Hid (Calls _ _ _ w _) := inew_no a b h w
  have H2 : Hid (Calls _ _ _ w _) := rnew_no a b h w
  clear h
  go_enter Tryz.func11, Tryz.ntmps11
  go_wp2_with (first | (go_at_call 14; refine Calls.mono H1.out ?_; rintro e w' ⟨rfl, hq⟩; have hq := hq.symm; subst hq) | (go_at_call 30; refine Calls.mono H2.out ?_; rintro e w' ⟨rfl, hq⟩; have hq := hq.symm; subst hq))
  refine bodyPost_ret (results_tmp3 rfl _ _ _) rfl ?_
  exact ⟨rfl, rfl⟩
theorem both_t (a b : Int) (h : valN a b) (w : World) : Calls Tryz.prog 11 #[.int .i64 a, .int .i64 b] w fun e w' => ∃ p q F, e = .returned (.tuple #[.pointer (some ⟨p, 0, none⟩), .pointer (some ⟨q, 0, none⟩), .bool true]) ∧ IbA w' p 0 (newI a.toNat b.toNat) F ∧ Rib none w' q none 0 0 none 0 0 (newI a.toNat b.toNat) [] ∧ (∀ b, F b → w.heap.size ≤ b ∧ b < q) ∧ w.heap.size ≤ q ∧ Below w.heap.size w w' := by
  obtain ⟨⟨h1, h2⟩, h3, h4⟩ := h
  obtain ⟨a, rfl⟩ : ∃ n : Nat, a = (n : Int) := ⟨a.toNat, by omega⟩
  obtain ⟨b, rfl⟩ : ∃ n : Nat, b = (n : Int) := ⟨b.toNat, by omega⟩
  have H1 : Hid (Calls _ _ _ w _) := new_a a b (by omega) (by omega) (by omega) (by omega) w
  have H2 : Hid (∀ u : World, Calls _ _ _ u _) := fun u => rnew_t13 a b (by omega) (by omega) (by omega) (by omega) u
  go_enter Tryz.func11, Tryz.ntmps11
  go_wp2_with fail
  refine Calls.mono H1.out ?_
  rintro e w1 ⟨p, F, rfl, hI, hF, hb1⟩
  have HI : Hid _ := hI
  have HF : Hid _ := hF
  have HB1 : Hid _ := hb1
  clear hI hF hb1
  go_wp2_with fail
  refine Calls.mono (H2.out _) ?_
  rintro e w2 ⟨q, rfl, hR, hq, hb2⟩
  have HR : Hid _ := hR
  have HQ : Hid _ := hq
  have HB2 : Hid _ := hb2
  clear hR hq hb2
  go_wp2
  refine bodyPost_ret (results_tmp3 rfl _ _ _) rfl ?_
  exact ⟨p, q, F, rfl, HI.out.below HB2.out, HR.out, fun b hb => ⟨HF.out b hb, Nat.lt_of_lt_of_le (HI.out.lt b hb) HQ.out⟩, Nat.le_trans HB1.out.size HQ.out, below_next HB1.out HB2.out⟩
theorem inboxMakes_walk (a b : Int) (w : World) : Calls Tryz.prog 5 #[.int .i64 a, .int .i64 b] w fun e w' => e = .returned (.bool true) ∧ Below w.heap.size w w' := by
  have HK : Hid (∀ u : World, Calls _ _ _ u _) := fun u => knows_t u
  by_cases h : valN a b
  · have HBO : Hid (Calls _ _ _ w _) := both_t a b h w
    clear h
    go_enter Tryz.func5, Tryz.ntmps5
    go_wp2_with fail
    refine Calls.mono HBO.out ?_
    rintro e w1 ⟨p, q, F, rfl, hI, hR, -, -, hb1⟩
    have HI : Hid _ := hI
    have HR : Hid _ := hR
    have HB1 : Hid _ := hb1
    clear hI hR hb1
    go_wp2_with fail
    refine Calls.mono (HK.out _) ?_
    rintro e w2 ⟨rfl, hb2⟩
    have HB2 : Hid (Below w.heap.size w w2) := below_next HB1.out hb2
    have HSH : Hid (Calls _ _ _ w2 _) := shows_t (HI.out.below hb2) (HR.out.below hb2)
    clear hb2
    go_wp2_with fail
    refine Calls.mono HSH.out ?_
    rintro e w3 ⟨rfl, hb3⟩
    go_wp2
    go_ret
    exact ⟨rfl, below_next HB2.out hb3⟩
  · have HBO : Hid (Calls _ _ _ w _) := both_no a b h w
    clear h
    go_enter Tryz.func5, Tryz.ntmps5
    go_wp2_with fail
    refine Calls.mono HBO.out ?_
    rintro e w1 ⟨rfl, hq⟩
    have hq := hq.symm
    subst hq
    go_wp2_with fail
    refine Calls.mono (HK.out _) ?_
    rintro e w2 ⟨rfl, hb2⟩
    go_wp2
    go_ret
    exact ⟨rfl, hb2⟩
end
end Go.Proofs.YtkdgjfjcpgiokaaGreat
