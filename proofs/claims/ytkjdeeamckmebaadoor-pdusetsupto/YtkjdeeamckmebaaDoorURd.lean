import Derived.Test.YtkjdeeamckmebaaDoorUG
import Derived.Test.YtkjdeeamckmebaaDoorUDp
import Derived.Test.YtkjdeeamckmebaaDoorGLst
namespace Go.Proofs.YtkjdeeamckmebaaDoor
set_option linter.unusedVariables false
set_option linter.unusedSimpArgs false
open Go.RowKit
theorem hasB_eq {xs : List Rg} {i : Int} {b : Bool} (h : b = true ↔ hasR xs i) : hasB xs i = b := by rw [Bool.eq_iff_iff, hasB_iffR]; exact h.symm
section
set_option maxRecDepth 20000
set_option maxHeartbeats 3200000
theorem numberL_a (ao bo : Option Addr) (n m c1 c2 : Nat) (xs ys : List Rg) (i : Int) (w : World) (hn : n = xs.length) (hm : m = ys.length) (hx : RdR w ao xs) (hy : RdR w bo ys) (hl : n + m ≤ 1099511627776) (ha : ao = none → c1 = 0) (hb : bo = none → c2 = 0) (hL : hasR xs i) :
    Calls Tryd.prog 8 #[.slice ao n c1, .slice bo m c2, .int .i64 i] w fun e w' => e = .returned (.bool true) ∧ Below w.heap.size w w' := by
  have HU : Hid _ := union_t ao bo n m c1 c2 xs ys w hn hm hx hy hl ha hb
  have HX : Hid (∀ u, Below w.heap.size w u → Calls Tryd.prog 11 #[.slice ao n c1, .int .i64 i] u fun e w' => e = .returned (.bool true) ∧ Below u.heap.size u w') := fun u hu => by
    have h9 := has_t ao n c1 xs i u hn (hx.below hu) (by omega)
    rw [hasB_eq (b := true) ⟨fun _ => hL, fun _ => rfl⟩] at h9
    exact h9
  have HLE : Hid _ := fun (u : World) (hu : Below w.heap.size w u) => least_t ao n c1 xs u hn (hx.below hu) ha (by omega)
  have HHU : Hid (∀ out, (∀ i, hasR out i ↔ hasR (xs ++ ys) i) → hasB out i = true) := fun out ho => hasB_eq (b := true) (by rw [ho i, hasR_app]; exact ⟨fun _ => (.inl hL), fun _ => rfl⟩)
  have HHL : Hid (∀ out, (∀ i, hasR out i ↔ hasR xs i) → hasB out i = true) := fun out ho => hasB_eq (b := true) (by rw [ho i]; exact ⟨fun _ => hL, fun _ => rfl⟩)
  have HSZ : Hid (n = xs.length ∧ m = ys.length ∧ n + m ≤ 1099511627776) := ⟨hn, hm, hl⟩
  clear hn hm hx hy hl ha hb
  go_enter Tryd.func8, Tryd.ntmps8
  go_wp2_with fail
  refine Calls.mono HU.out ?_
  rintro e w1 ⟨v1, out1, rfl, ho1, hlst1, hmem1, hlen1, hb1⟩
  obtain ⟨a1, k1, hv1, -⟩ := ho1.val
  subst hv1
  obtain ⟨m1, hm1⟩ : ∃ m1, m1 = out1.length := ⟨_, rfl⟩
  rw [← hm1] at ho1 ⊢
  have HO1 : Hid (RdR w1 a1 out1 ∧ m1 = out1.length ∧ m1 ≤ 1099511627776) := ⟨ho1.rdA.1, hm1, by have := HSZ.out; rw [hm1]; rw [List.length_append] at hlen1; omega⟩
  have HB1 : Hid (Below w.heap.size w w1) := hb1
  have HE1 : Hid (hasB out1 i = true) := HHU.out out1 hmem1
  clear ho1 hlst1 hmem1 hlen1 hb1 hm1
  go_wp2_with fail
  refine Calls.mono (has_t a1 m1 k1 out1 i w1 HO1.out.2.1 HO1.out.1 HO1.out.2.2) ?_
  rintro e w2 ⟨rfl, hb2⟩
  rw [HE1.out]
  have HB2 : Hid (Below w.heap.size w w2) := below_next HB1.out hb2
  clear hb2
  go_wp2_with fail
  refine Calls.mono (HX.out _ HB2.out) ?_
  rintro e w3 ⟨rfl, hb3⟩
  have HB3 : Hid (Below w.heap.size w w3) := below_next HB2.out hb3
  clear hb3
  go_wp2_with fail
  refine Calls.mono (HLE.out _ HB3.out) ?_
  rintro e w5 ⟨v5, out5, rfl, ho5, hlst5, hmem5, hlen5, hb5⟩
  obtain ⟨a5, k5, hv5, -⟩ := ho5.val
  subst hv5
  obtain ⟨m5, hm5⟩ : ∃ m5, m5 = out5.length := ⟨_, rfl⟩
  rw [← hm5] at ho5 ⊢
  have HO5 : Hid (RdR w5 a5 out5 ∧ m5 = out5.length ∧ m5 ≤ 1099511627776) := ⟨ho5.rdA.1, hm5, by have := HSZ.out; rw [hm5]; omega⟩
  have HB5 : Hid (Below w.heap.size w w5) := below_next HB3.out hb5
  have HE5 : Hid (hasB out5 i = true) := HHL.out out5 hmem5
  clear ho5 hlst5 hmem5 hlen5 hb5 hm5
  go_wp2_with fail
  refine Calls.mono (has_t a5 m5 k5 out5 i w5 HO5.out.2.1 HO5.out.1 HO5.out.2.2) ?_
  rintro e w6 ⟨rfl, hb6⟩
  rw [HE5.out]
  have HB6 : Hid (Below w.heap.size w w6) := below_next HB5.out hb6
  clear hb6
  go_wp2_with fail
  refine Calls.mono (HX.out _ HB6.out) ?_
  rintro e w7 ⟨rfl, hb7⟩
  have HB7 : Hid (Below w.heap.size w w7) := below_next HB6.out hb7
  clear hb7
  go_wp2
  go_ret
  exact ⟨rfl, HB7.out⟩
theorem numberL_b (ao bo : Option Addr) (n m c1 c2 : Nat) (xs ys : List Rg) (i : Int) (w : World) (hn : n = xs.length) (hm : m = ys.length) (hx : RdR w ao xs) (hy : RdR w bo ys) (hl : n + m ≤ 1099511627776) (ha : ao = none → c1 = 0) (hb : bo = none → c2 = 0) (hL : ¬ hasR xs i) (hM : hasR ys i) :
    Calls Tryd.prog 8 #[.slice ao n c1, .slice bo m c2, .int .i64 i] w fun e w' => e = .returned (.bool true) ∧ Below w.heap.size w w' := by
  have HU : Hid _ := union_t ao bo n m c1 c2 xs ys w hn hm hx hy hl ha hb
  have HX : Hid (∀ u, Below w.heap.size w u → Calls Tryd.prog 11 #[.slice ao n c1, .int .i64 i] u fun e w' => e = .returned (.bool false) ∧ Below u.heap.size u w') := fun u hu => by
    have h9 := has_t ao n c1 xs i u hn (hx.below hu) (by omega)
    rw [hasB_eq (b := false) ⟨(fun h => by cases h), fun h => absurd h hL⟩] at h9
    exact h9
  have HY : Hid (∀ u, Below w.heap.size w u → Calls Tryd.prog 11 #[.slice bo m c2, .int .i64 i] u fun e w' => e = .returned (.bool true) ∧ Below u.heap.size u w') := fun u hu => by
    have h9 := has_t bo m c2 ys i u hm (hy.below hu) (by omega)
    rw [hasB_eq (b := true) ⟨fun _ => hM, fun _ => rfl⟩] at h9
    exact h9
  have HLE : Hid _ := fun (u : World) (hu : Below w.heap.size w u) => least_t ao n c1 xs u hn (hx.below hu) ha (by omega)
  have HHU : Hid (∀ out, (∀ i, hasR out i ↔ hasR (xs ++ ys) i) → hasB out i = true) := fun out ho => hasB_eq (b := true) (by rw [ho i, hasR_app]; exact ⟨fun _ => (.inr hM), fun _ => rfl⟩)
  have HHL : Hid (∀ out, (∀ i, hasR out i ↔ hasR xs i) → hasB out i = false) := fun out ho => hasB_eq (b := false) (by rw [ho i]; exact ⟨(fun h => by cases h), fun h => absurd h hL⟩)
  have HSZ : Hid (n = xs.length ∧ m = ys.length ∧ n + m ≤ 1099511627776) := ⟨hn, hm, hl⟩
  clear hn hm hx hy hl ha hb
  go_enter Tryd.func8, Tryd.ntmps8
  go_wp2_with fail
  refine Calls.mono HU.out ?_
  rintro e w1 ⟨v1, out1, rfl, ho1, hlst1, hmem1, hlen1, hb1⟩
  obtain ⟨a1, k1, hv1, -⟩ := ho1.val
  subst hv1
  obtain ⟨m1, hm1⟩ : ∃ m1, m1 = out1.length := ⟨_, rfl⟩
  rw [← hm1] at ho1 ⊢
  have HO1 : Hid (RdR w1 a1 out1 ∧ m1 = out1.length ∧ m1 ≤ 1099511627776) := ⟨ho1.rdA.1, hm1, by have := HSZ.out; rw [hm1]; rw [List.length_append] at hlen1; omega⟩
  have HB1 : Hid (Below w.heap.size w w1) := hb1
  have HE1 : Hid (hasB out1 i = true) := HHU.out out1 hmem1
  clear ho1 hlst1 hmem1 hlen1 hb1 hm1
  go_wp2_with fail
  refine Calls.mono (has_t a1 m1 k1 out1 i w1 HO1.out.2.1 HO1.out.1 HO1.out.2.2) ?_
  rintro e w2 ⟨rfl, hb2⟩
  rw [HE1.out]
  have HB2 : Hid (Below w.heap.size w w2) := below_next HB1.out hb2
  clear hb2
  go_wp2_with fail
  refine Calls.mono (HX.out _ HB2.out) ?_
  rintro e w3 ⟨rfl, hb3⟩
  have HB3 : Hid (Below w.heap.size w w3) := below_next HB2.out hb3
  clear hb3
  go_wp2_with fail
  refine Calls.mono (HY.out _ HB3.out) ?_
  rintro e w4 ⟨rfl, hb4⟩
  have HB4 : Hid (Below w.heap.size w w4) := below_next HB3.out hb4
  clear hb4
  go_wp2_with fail
  refine Calls.mono (HLE.out _ HB4.out) ?_
  rintro e w5 ⟨v5, out5, rfl, ho5, hlst5, hmem5, hlen5, hb5⟩
  obtain ⟨a5, k5, hv5, -⟩ := ho5.val
  subst hv5
  obtain ⟨m5, hm5⟩ : ∃ m5, m5 = out5.length := ⟨_, rfl⟩
  rw [← hm5] at ho5 ⊢
  have HO5 : Hid (RdR w5 a5 out5 ∧ m5 = out5.length ∧ m5 ≤ 1099511627776) := ⟨ho5.rdA.1, hm5, by have := HSZ.out; rw [hm5]; omega⟩
  have HB5 : Hid (Below w.heap.size w w5) := below_next HB4.out hb5
  have HE5 : Hid (hasB out5 i = false) := HHL.out out5 hmem5
  clear ho5 hlst5 hmem5 hlen5 hb5 hm5
  go_wp2_with fail
  refine Calls.mono (has_t a5 m5 k5 out5 i w5 HO5.out.2.1 HO5.out.1 HO5.out.2.2) ?_
  rintro e w6 ⟨rfl, hb6⟩
  rw [HE5.out]
  have HB6 : Hid (Below w.heap.size w w6) := below_next HB5.out hb6
  clear hb6
  go_wp2_with fail
  refine Calls.mono (HX.out _ HB6.out) ?_
  rintro e w7 ⟨rfl, hb7⟩
  have HB7 : Hid (Below w.heap.size w w7) := below_next HB6.out hb7
  clear hb7
  go_wp2
  go_ret
  exact ⟨rfl, HB7.out⟩
theorem numberL_c (ao bo : Option Addr) (n m c1 c2 : Nat) (xs ys : List Rg) (i : Int) (w : World) (hn : n = xs.length) (hm : m = ys.length) (hx : RdR w ao xs) (hy : RdR w bo ys) (hl : n + m ≤ 1099511627776) (ha : ao = none → c1 = 0) (hb : bo = none → c2 = 0) (hL : ¬ hasR xs i) (hM : ¬ hasR ys i) :
    Calls Tryd.prog 8 #[.slice ao n c1, .slice bo m c2, .int .i64 i] w fun e w' => e = .returned (.bool true) ∧ Below w.heap.size w w' := by
  have HU : Hid _ := union_t ao bo n m c1 c2 xs ys w hn hm hx hy hl ha hb
  have HX : Hid (∀ u, Below w.heap.size w u → Calls Tryd.prog 11 #[.slice ao n c1, .int .i64 i] u fun e w' => e = .returned (.bool false) ∧ Below u.heap.size u w') := fun u hu => by
    have h9 := has_t ao n c1 xs i u hn (hx.below hu) (by omega)
    rw [hasB_eq (b := false) ⟨(fun h => by cases h), fun h => absurd h hL⟩] at h9
    exact h9
  have HY : Hid (∀ u, Below w.heap.size w u → Calls Tryd.prog 11 #[.slice bo m c2, .int .i64 i] u fun e w' => e = .returned (.bool false) ∧ Below u.heap.size u w') := fun u hu => by
    have h9 := has_t bo m c2 ys i u hm (hy.below hu) (by omega)
    rw [hasB_eq (b := false) ⟨(fun h => by cases h), fun h => absurd h hM⟩] at h9
    exact h9
  have HLE : Hid _ := fun (u : World) (hu : Below w.heap.size w u) => least_t ao n c1 xs u hn (hx.below hu) ha (by omega)
  have HHU : Hid (∀ out, (∀ i, hasR out i ↔ hasR (xs ++ ys) i) → hasB out i = false) := fun out ho => hasB_eq (b := false) (by rw [ho i, hasR_app]; exact ⟨(fun h => by cases h), fun h => h.elim (fun h => absurd h hL) (fun h => absurd h hM)⟩)
  have HHL : Hid (∀ out, (∀ i, hasR out i ↔ hasR xs i) → hasB out i = false) := fun out ho => hasB_eq (b := false) (by rw [ho i]; exact ⟨(fun h => by cases h), fun h => absurd h hL⟩)
  have HSZ : Hid (n = xs.length ∧ m = ys.length ∧ n + m ≤ 1099511627776) := ⟨hn, hm, hl⟩
  clear hn hm hx hy hl ha hb
  go_enter Tryd.func8, Tryd.ntmps8
  go_wp2_with fail
  refine Calls.mono HU.out ?_
  rintro e w1 ⟨v1, out1, rfl, ho1, hlst1, hmem1, hlen1, hb1⟩
  obtain ⟨a1, k1, hv1, -⟩ := ho1.val
  subst hv1
  obtain ⟨m1, hm1⟩ : ∃ m1, m1 = out1.length := ⟨_, rfl⟩
  rw [← hm1] at ho1 ⊢
  have HO1 : Hid (RdR w1 a1 out1 ∧ m1 = out1.length ∧ m1 ≤ 1099511627776) := ⟨ho1.rdA.1, hm1, by have := HSZ.out; rw [hm1]; rw [List.length_append] at hlen1; omega⟩
  have HB1 : Hid (Below w.heap.size w w1) := hb1
  have HE1 : Hid (hasB out1 i = false) := HHU.out out1 hmem1
  clear ho1 hlst1 hmem1 hlen1 hb1 hm1
  go_wp2_with fail
  refine Calls.mono (has_t a1 m1 k1 out1 i w1 HO1.out.2.1 HO1.out.1 HO1.out.2.2) ?_
  rintro e w2 ⟨rfl, hb2⟩
  rw [HE1.out]
  have HB2 : Hid (Below w.heap.size w w2) := below_next HB1.out hb2
  clear hb2
  go_wp2_with fail
  refine Calls.mono (HX.out _ HB2.out) ?_
  rintro e w3 ⟨rfl, hb3⟩
  have HB3 : Hid (Below w.heap.size w w3) := below_next HB2.out hb3
  clear hb3
  go_wp2_with fail
  refine Calls.mono (HY.out _ HB3.out) ?_
  rintro e w4 ⟨rfl, hb4⟩
  have HB4 : Hid (Below w.heap.size w w4) := below_next HB3.out hb4
  clear hb4
  go_wp2_with fail
  refine Calls.mono (HLE.out _ HB4.out) ?_
  rintro e w5 ⟨v5, out5, rfl, ho5, hlst5, hmem5, hlen5, hb5⟩
  obtain ⟨a5, k5, hv5, -⟩ := ho5.val
  subst hv5
  obtain ⟨m5, hm5⟩ : ∃ m5, m5 = out5.length := ⟨_, rfl⟩
  rw [← hm5] at ho5 ⊢
  have HO5 : Hid (RdR w5 a5 out5 ∧ m5 = out5.length ∧ m5 ≤ 1099511627776) := ⟨ho5.rdA.1, hm5, by have := HSZ.out; rw [hm5]; omega⟩
  have HB5 : Hid (Below w.heap.size w w5) := below_next HB4.out hb5
  have HE5 : Hid (hasB out5 i = false) := HHL.out out5 hmem5
  clear ho5 hlst5 hmem5 hlen5 hb5 hm5
  go_wp2_with fail
  refine Calls.mono (has_t a5 m5 k5 out5 i w5 HO5.out.2.1 HO5.out.1 HO5.out.2.2) ?_
  rintro e w6 ⟨rfl, hb6⟩
  rw [HE5.out]
  have HB6 : Hid (Below w.heap.size w w6) := below_next HB5.out hb6
  clear hb6
  go_wp2_with fail
  refine Calls.mono (HX.out _ HB6.out) ?_
  rintro e w7 ⟨rfl, hb7⟩
  have HB7 : Hid (Below w.heap.size w w7) := below_next HB6.out hb7
  clear hb7
  go_wp2
  go_ret
  exact ⟨rfl, HB7.out⟩
end
theorem numberL_t (ao bo : Option Addr) (n m c1 c2 : Nat) (xs ys : List Rg) (i : Int) (w : World) (hn : n = xs.length) (hm : m = ys.length) (hx : RdR w ao xs) (hy : RdR w bo ys) (hl : n + m ≤ 1099511627776) (ha : ao = none → c1 = 0) (hb : bo = none → c2 = 0) :
    Calls Tryd.prog 8 #[.slice ao n c1, .slice bo m c2, .int .i64 i] w fun e w' => e = .returned (.bool true) ∧ Below w.heap.size w w' := by
  by_cases hL : hasR xs i
  · exact numberL_a ao bo n m c1 c2 xs ys i w hn hm hx hy hl ha hb hL
  · by_cases hM : hasR ys i
    · exact numberL_b ao bo n m c1 c2 xs ys i w hn hm hx hy hl ha hb hL hM
    · exact numberL_c ao bo n m c1 c2 xs ys i w hn hm hx hy hl ha hb hL hM
end Go.Proofs.YtkjdeeamckmebaaDoor
namespace Go.Proofs.YtkjdeeamckmebaaDoor
set_option linter.unusedVariables false
set_option linter.unusedSimpArgs false
open Go.RowKit
def MRel (L : Nat) (ls : List Rg) (m : Int) (w3 : World) (ov av j : Value) (wr : World) : Prop := ∃ (k : Nat) (o : List Rg) (q : Int), k ≤ L + 1 ∧ j = .int .i64 (k : Int) ∧ av = .int .i64 q ∧ OwnR wr w3.heap.size ov o ∧ o.length ≤ k ∧ Below w3.heap.size w3 wr ∧ ((k ≤ L ∧ PI (ls.take k) o m q) ∨ (k = L + 1 ∧ MissS ls o m))
theorem heap_alloc_size1 (w : World) (o : Obj) : (w.alloc o).heap.size = w.heap.size + 1 := by simp
theorem min_if (a b : Int) : (if b < a then b else a) = min a b := by split <;> omega
section
set_option maxRecDepth 20000
set_option maxHeartbeats 1600000
theorem total_t (ao : Option Addr) (n cap : Nat) (xs : List Rg) (w : World) (hn : n = xs.length) (hx : RdR w ao xs) (ha : ao = none → cap = 0) (hl : n ≤ 1099511627776) :
    Calls Tryd.prog 12 #[.slice ao n cap] w fun e w' => TotOut xs w e w' := by
  have HR : Hid _ := least_t ao n cap xs w hn hx ha hl
  have HN : Hid _ := hn
  clear hn
  go_enter Tryd.func12, Tryd.ntmps12
  go_wp2_with (go_at_call 7; refine Calls.mono HR.out ?_; rintro e w1 ⟨v1, out, rfl, hown, h2, h3, h4, h5⟩; obtain ⟨a, c, hv, hc1, hc2, hc3, hrd, hq⟩ := hown.val; obtain ⟨L, hL⟩ : ∃ L : Nat, L = out.length := ⟨_, rfl⟩; rw [← hL] at hv; subst hv; have HL : Hid _ := hL; have HO : Hid (Lst out ∧ (∀ i, hasR out i ↔ hasR xs i) ∧ Below w.heap.size w w1) := ⟨h2, h3, h5⟩; have hLL : L ≤ 1099511627776 := (by have := HN.out; omega); clear hown h2 h3 h4 h5 hc1 hc2 hc3 hq hL)
  go_loopw [3, 9] (fun sv j wr => ∃ k : Nat, k ≤ L ∧ j = .int .i64 (k : Int) ∧ sv = .int .u64 (sumU 0 (out.take k)) ∧ Below w1.heap.size w1 wr) (fun _ j _ => L - (intOf j).toNat)
  case atStart => exact ⟨0, Nat.zero_le _, rfl, rfl, Below.refl _ _⟩
  case round =>
    obtain ⟨k, hk, rfl, rfl, hbw⟩ := hrel
    have hkw : IntKind.i64.wrap ((k : Int) + 1) = ((k + 1 : Nat) : Int) := by rw [IntKind.wrap_i64]; omega
    obtain ⟨s, hs⟩ : ∃ s : Int, s = sumU 0 (out.take k) := ⟨_, rfl⟩
    have HSI : Hid _ := sumU_in (out.take k) 0 (by omega)
    rw [← hs] at HSI
    have HS : Hid _ := hs
    rw [← hs]
    clear hs
    have HB : Hid (Below w1.heap.size w1 wr) := hbw
    by_cases hlt : k < L
    · have hk1 : k < out.length := by rw [← HL.out]; exact hlt
      have hlti : (k : Int) < (L : Int) := by omega
      have hk0 : (0 : Int) ≤ (k : Int) := by omega
      have hxr := hrd.below hbw
      obtain ⟨b, o, rfl, -, -⟩ := hxr k hk1
      have HRG : Hid _ := hxr.range k hk1
      obtain ⟨x, hx9⟩ : ∃ x : Rg, x = out[k] := ⟨_, rfl⟩
      rw [← hx9] at HRG
      have HTK : Hid (out.take (k + 1) = out.take k ++ [x]) := by unfold Hid; rw [List.take_succ_eq_append_getElem hk1, hx9]
      obtain ⟨a1, a2⟩ := x
      have HW : Hid _ := wrap_sub2 s a1 a2
      have HNX : Hid ((s + (a2 - a1)) % 18446744073709551616 = sumU 0 (out.take (k + 1))) := by unfold Hid; rw [HTK.out, sumU_snoc, HS.out]
      have hz := (zero_of_info info_rg).1
      clear hx9 hxr hbw
      go_wp2_with (refine wpList_load_mid rfl 28 _ rfl b (o + k * 2) (by rfl) [.int .i64 a1, .int .i64 a2] _ HRG.out Tryd.underlying28 rfl (by rw [(zero_of_info info_rg).2]; rfl) ?_)
      go_roundw
      case rel => exact ⟨k + 1, by omega, by go_num, by rw [← HNX.out, ← HW.out], al HB.out _⟩
      case measure => simp [intOf]; omega
    · have hlti : ¬ (k : Int) < (L : Int) := by omega
      have HF : Hid (s = sumU 0 out) := by
        have h9 := HS.out
        rw [List.take_of_length_le (by rw [← HL.out]; omega)] at h9
        exact h9
      have HT : Hid (IntKind.i64.wrap (min s 9223372036854775807) = totI (sumU 0 out)) := by
        unfold Hid totI
        rw [← HF.out, IntKind.wrap_i64]
        have := HSI.out
        split <;> omega
      obtain ⟨T, hT⟩ : ∃ T : Int, T = totI (sumU 0 out) := ⟨_, rfl⟩
      have hws : IntKind.i64.wrap (min s 9223372036854775807) = T := by rw [hT]; exact HT.out
      have HTT : Hid _ := hT
      clear hbw hT
      go_wp2
      go_ret
      exact ⟨out, HO.out.1, HO.out.2.1, by rw [← HTT.out]; rfl, below_next HO.out.2.2 HB.out⟩
theorem missing_t (ao : Option Addr) (n cap : Nat) (xs : List Rg) (m : Int) (w : World) (hn : n = xs.length) (hx : RdR w ao xs) (ha : ao = none → cap = 0) (hl : n ≤ 1000000000000) :
    Calls Tryd.prog 10 #[.slice ao n cap, .int .i64 m] w fun e w' => MissOut xs m w e w' := by
  have HR : Hid _ := least_t ao n cap xs w hn hx ha (by omega)
  have HN : Hid (n = xs.length) := hn
  clear hn
  go_enter Tryd.func10, Tryd.ntmps10
  go_wp2_with fail
  refine Calls.mono HR.out ?_
  rintro e w1 ⟨v1, ls, rfl, hown, h2, h3, h4, h5⟩
  obtain ⟨L, hL⟩ : ∃ L : Nat, L = ls.length := ⟨_, rfl⟩
  have HL : Hid (L = ls.length) := hL
  have HO : Hid (OwnR w1 w.heap.size v1 ls) := hown
  have HLS : Hid (Lst ls ∧ (∀ i, hasR ls i ↔ hasR xs i) ∧ Below w.heap.size w w1) := ⟨h2, h3, h5⟩
  have hLL : L ≤ 1000000000000 := by have := HN.out; omega
  have hLX : L ≤ xs.length := by omega
  have hs1 := h5.size
  clear hown h2 h3 h4 h5 HR
  obtain ⟨a, c, hv, -, -, -, -, -⟩ := OwnR.val HO.out
  rw [← hL] at hv
  subst hv
  clear hL
  go_wp2_with (at_builtin; refine wp_appR1 rfl _ _ rfl w.heap.size _ ls L HL.out (m, m) w1.heap.size rfl (OwnR.below HO.out (al (Below.refl _ _) _)) rfl (heap_alloc_new w1 _) (by omega) (by simp; omega) ?_; intro g3 c3 w3 hown3 hg3 hlies3; have HB3 : Hid (Below w.heap.size w w3) := (al HLS.out.2.2 _).grown hg3 (by simp; omega) (fun k hk => (World.ownsRow.lt HO.out k hk).1); have HRD : Hid (RdR w3 (some ⟨g3, 0, none⟩) (ls ++ [(m, m)])) := (by obtain ⟨a9, c9, hv9, -, -, -, hrd9, -⟩ := OwnR.val hown3; simp only [Value.slice.injEq] at hv9; obtain ⟨rfl, -, rfl⟩ := hv9; exact hrd9); clear hown3 hg3 hlies3)
  go_loopw [5, 6, 18] (fun ov av j wr => MRel L ls m w3 ov av j wr) (fun _ _ j _ => L + 1 - (intOf j).toNat)
  case atStart => exact ⟨0, [], 0, Nat.zero_le _, rfl, rfl, OwnR.nil _ _, Nat.le_refl _, Below.refl _ _, .inl ⟨Nat.zero_le _, PI.start m⟩⟩
  case round =>
    obtain ⟨k, o, q, hk, rfl, rfl, hown, hol, hbw, hst⟩ := hrel
    have hkw : IntKind.i64.wrap ((k : Int) + 1) = ((k + 1 : Nat) : Int) := by rw [IntKind.wrap_i64]; omega
    have HO4 : Hid (OwnR wr w3.heap.size u5 o) := hown
    have HST : Hid ((k ≤ L ∧ PI (ls.take k) o m q) ∨ (k = L + 1 ∧ MissS ls o m)) := hst
    have HOL : Hid (o.length ≤ k) := hol
    have HBW : Hid (Below w3.heap.size w3 wr) := hbw
    have hsw := hbw.size
    have hol9 : o.length ≤ 1099511627776 := by omega
    clear hown hst hol
    by_cases hlt : k < L + 1
    · have hk1 : k < (ls ++ [(m, m)]).length := by rw [List.length_append, ← HL.out]; exact hlt
      have hlti : (k : Int) < (L : Int) + 1 := by omega
      have hk0 : (0 : Int) ≤ (k : Int) := by omega
      have HRG : Hid _ := (RdR.below HRD.out hbw).range k hk1
      obtain ⟨x, hx9⟩ : ∃ x : Rg, x = (ls ++ [(m, m)])[k] := ⟨_, rfl⟩
      rw [← hx9, Nat.zero_add] at HRG
      have HNX : Hid ((k + 1 ≤ L ∧ PI (ls.take (k + 1)) (gapped o q (min x.1 m)) m (max q x.2)) ∨ (k + 1 = L + 1 ∧ MissS ls (gapped o q (min x.1 m)) m)) := by
        rcases HST.out with ⟨h1, h2⟩ | ⟨h1, -⟩
        · by_cases h3 : k < L
          · have h4 : k < ls.length := by rw [← HL.out]; exact h3
            have h5 : x = ls[k] := by rw [hx9, List.getElem_append_left h4]
            refine .inl ⟨by omega, ?_⟩
            rw [List.take_succ_eq_append_getElem h4, ← h5]
            refine h2.step (by rw [h5]; exact HLS.out.1.pos _ (List.getElem_mem h4)) (fun z hz => ?_)
            obtain ⟨i, hi, e⟩ := List.getElem_of_mem hz
            have hi2 : i < k := by simp at hi; omega
            have h9 := List.pairwise_iff_getElem.1 HLS.out.1.gap i k (by omega) h4 hi2
            rw [h5, ← e, List.getElem_take]
            exact h9
          · have h4 : k = ls.length := by have := HL.out; omega
            have h5 : x = (m, m) := by rw [hx9, List.getElem_append_right (by omega)]; simp
            refine .inr ⟨by omega, ?_⟩
            rw [List.take_of_length_le (by omega)] at h2
            rw [h5, show min (m, m).1 m = m by simp]
            exact h2.last
        · omega
      obtain ⟨a1, a2⟩ := x
      have hz := (zero_of_info info_rg).1
      simp only at HNX
      clear hx9 hbw HST
      by_cases hg : q < min a1 m
      · have hgd : decide (min a1 m ≤ q) = false := by simp; omega
        rw [gapped_yes hg] at HNX
        go_wp2_with (first
          | (refine wpList_load_mid rfl 28 _ rfl g3 (k * 2) (by rfl) [.int .i64 a1, .int .i64 a2] _ HRG.out Tryd.underlying28 rfl (by rw [(zero_of_info info_rg).2]; rfl) ?_)
          | (go_at_call 22; refine (empty_t _ _ _).mono ?_; rintro e w5 ⟨rfl, hb5⟩; have hb5w : Below wr.heap.size wr w5 := below_next (al (al (Below.refl _ _) _) _) hb5; have hs5 := hb5.size; have HX1 : Hid (w5.cell? ⟨wr.heap.size, 1, none⟩ = some (.int .i64 a2)) := (((rd_lit1 wr (a1, a2)).below (below_next (al (Below.refl _ _) _) hb5)).range 0 (Nat.zero_lt_succ _)) 1 _ rfl; have HX2 : Hid (w5.rangeAt (wr.heap.size + 1) 0 [.int .i64 q, .int .i64 (min a1 m)]) := (by have h9 := ((rd_lit1 (wr.alloc (.cells #[.int .i64 a1, .int .i64 a2] 28 (0, 0))) (q, min a1 m)).below hb5); rw [heap_alloc_size1] at h9; exact h9.range 0 (Nat.zero_lt_succ _)); have HO5 : Hid (OwnR w5 w3.heap.size u5 o) := OwnR.below HO4.out hb5w; have HB5 : Hid (Below w3.heap.size w3 w5) := below_next HBW.out hb5w)
          | (refine wpList_load_mid rfl 28 _ rfl (wr.heap.size + 1) 0 (by rfl) [.int .i64 q, .int .i64 (min a1 m)] _ HX2.out Tryd.underlying28 rfl (by rw [(zero_of_info info_rg).2]; rfl) ?_)
          | (at_builtin; refine wp_appR1 rfl _ _ rfl w3.heap.size _ o o.length rfl (q, min a1 m) w5.heap.size rfl (OwnR.below HO5.out (al (Below.refl _ _) _)) rfl (heap_alloc_new w5 _) hol9 (by simp at hs5 ⊢; omega) ?_; intro g6 c6 w6 hown6 hg6 hlies6; have hx6 : w6.cell? ⟨wr.heap.size, 1, none⟩ = some (.int .i64 a2) := hg6.cell (((al (Below.refl _ w5) _).cell (p := ⟨wr.heap.size, 1, none⟩) (World.block_lt_of_cell? w5 _ HX1.out)).trans HX1.out) (fun h => by have h9 := (World.ownsRow.lt HO4.out wr.heap.size h.symm).2; omega); have HB6 : Hid (Below w3.heap.size w3 w6) := (al HB5.out _).grown hg6 (by simp at hs5 ⊢; omega) (fun k hk => (World.ownsRow.lt HO4.out k hk).1)))
        go_roundw
        case rel => exact ⟨k + 1, _, _, by omega, by go_num, rfl, hown6, (by have := HOL.out; simp only [List.length_append, List.length_cons, List.length_nil]; omega), HB6.out, HNX.out⟩
        case measure => simp [intOf]; omega
      · have hgd : decide (min a1 m ≤ q) = true := by simp; omega
        rw [gapped_no hg] at HNX
        go_wp2_with (first
          | (refine wpList_load_mid rfl 28 _ rfl g3 (k * 2) (by rfl) [.int .i64 a1, .int .i64 a2] _ HRG.out Tryd.underlying28 rfl (by rw [(zero_of_info info_rg).2]; rfl) ?_)
          | (go_at_call 22; refine (empty_t _ _ _).mono ?_; rintro e w5 ⟨rfl, hb5⟩; have hb5w : Below wr.heap.size wr w5 := below_next (al (al (Below.refl _ _) _) _) hb5; have hs5 := hb5.size; have HX1 : Hid (w5.cell? ⟨wr.heap.size, 1, none⟩ = some (.int .i64 a2)) := (((rd_lit1 wr (a1, a2)).below (below_next (al (Below.refl _ _) _) hb5)).range 0 (Nat.zero_lt_succ _)) 1 _ rfl; have HX2 : Hid (w5.rangeAt (wr.heap.size + 1) 0 [.int .i64 q, .int .i64 (min a1 m)]) := (by have h9 := ((rd_lit1 (wr.alloc (.cells #[.int .i64 a1, .int .i64 a2] 28 (0, 0))) (q, min a1 m)).below hb5); rw [heap_alloc_size1] at h9; exact h9.range 0 (Nat.zero_lt_succ _)); have HO5 : Hid (OwnR w5 w3.heap.size u5 o) := OwnR.below HO4.out hb5w; have HB5 : Hid (Below w3.heap.size w3 w5) := below_next HBW.out hb5w; have hx5 := HX1.out))
        go_roundw
        case rel => exact ⟨k + 1, _, _, by omega, by go_num, rfl, HO5.out, (by have := HOL.out; omega), HB5.out, HNX.out⟩
        case measure => simp [intOf]; omega
    · have hlti : ¬ (k : Int) < (L : Int) + 1 := by omega
      have HF : Hid (MissS ls o m) := by
        rcases HST.out with ⟨h1, -⟩ | ⟨-, h2⟩
        · omega
        · exact h2
      clear hbw
      go_wp2
      go_ret
      exact ⟨_, o, rfl, OwnR.base HO4.out HB3.out.size, ⟨HF.out.1, fun i => by rw [HF.out.2 i, HLS.out.2.1 i]⟩, by have := HOL.out; omega, below_next HB3.out HBW.out⟩
end
end Go.Proofs.YtkjdeeamckmebaaDoor
namespace Go.Proofs.YtkjdeeamckmebaaDoor
set_option linter.unusedVariables false
set_option linter.unusedSimpArgs false
open Go.RowKit
/-- a unit's value -/
abbrev unV (u : Un) (da : Option Addr) (dc : Nat) (ga : Option Addr) (gc : Nat) : Value := .agg #[.int .i64 u.kind, .int .u64 u.ep, .int .u64 u.se, .int .i64 u.path, .int .i64 u.idx, .int .i64 u.cnt, .slice da u.data.length dc, .int .i64 u.code, .slice ga u.got.length gc]
/-- what read gives: a unit with memory of its own -/
def RdOut (W : World) (p B g : Nat) (u : Un) (y : List UInt8) (f : Int) (er : Ending) (w' : World) : Prop := ∃ da dc ga gc, er = .returned (unV u da dc ga gc) ∧ Own w' (g + 1) (.slice da u.data.length dc) u.data ∧ OwnR w' (g + 1) (.slice ga u.got.length gc) u.got ∧ RS w' p B y f ∧ Below W.heap.size W w'
section
set_option maxRecDepth 20000
set_option maxHeartbeats 3200000
theorem read_0a {p B n1 n2 n3 : Nat} {ys y1 y2 y3 : List UInt8} {f f1 f2 f3 : Int} (b2 b3 : Bool) (W w : World) (h : RS w p B ys f) (hW : Below W.heap.size W w) (hpW : W.heap.size ≤ p)
    (e1 : nmS mxU (ys, f) = (n1, y1, f1)) (hk : n1 ≠ 1 ∧ n1 ≠ 2 ∧ n1 ≠ 3) (e2 : nmS mxU (y1, mustF false f1) = (n2, y2, f2)) (hb2 : b2 = true ↔ nameOk (n2 : Int)) (e3 : nmS mxU (y2, mustF b2 f2) = (n3, y3, f3)) (hb3 : b3 = true ↔ nameOk (n3 : Int)) (hf : ¬ mustF b3 f3 = 0) :
    Calls Tryd.prog 31 #[.pointer (some ⟨p, 0, none⟩)] w fun er w' => RdOut W p B w.heap.size ⟨(n1 : Nat), (n2 : Nat), (n3 : Nat), 0, 0, 0, [], 0, []⟩ y3 (mustF b3 f3) er w' := by
  have HP : Hid (W.heap.size ≤ p ∧ p < w.heap.size) := ⟨hpW, h.lt⟩
  have HE1 : Hid _ := e1
  have HE2 : Hid _ := e2
  have HE3 : Hid _ := e3
  have HQ2 : Hid _ := hb2
  have HQ3 : Hid _ := hb3
  have HR0 : Hid (RS w p B ys f) := h
  have HW0 : Hid (Below W.heap.size W w) := hW
  have HK : Hid (KindIs (n1 : Int) kd0 false) := .inr (.inr (.inr ⟨⟨by omega, by omega, by omega⟩, rfl, rfl⟩))
  clear hk
  clear h hW hpW e1 e2 e3 hb2 hb3
  have hsf := fun (u : World) (a : Addr) (n : Nat) => run_store Tryd.prog u a (.func (.func n) #[] #[]) .plain rfl
  have hsn := fun (u : World) (a : Addr) => run_store Tryd.prog u a .nilFunc .plain rfl
  go_enter Tryd.func31, Tryd.ntmps31
  go_wp2_with fail
  refine Calls.mono (small_t _ (RS.below HR0.out (al (Below.refl _ _) _)) HE1.out) ?_
  rintro er1 w1 ⟨rfl, hr, hg⟩
  obtain ⟨g, hgs⟩ : ∃ g, g = w.heap.size := ⟨_, rfl⟩
  rw [← hgs]
  have HGS : Hid (g = w.heap.size) := hgs
  have HPG : Hid (p < g) := by unfold Hid; rw [hgs]; exact HP.out.2
  have HU1 : Hid (UBx w1 g #[.int .i64 0, .int .u64 0, .int .u64 0, .int .i64 0, .int .i64 0, .int .i64 0, .slice none 0 0, .int .i64 0, .slice none 0 0]) := by unfold Hid; rw [hgs]; exact gr_box hg (by have := HP.out; omega) (heap_alloc_new w _)
  have HR1 : Hid (RS w1 p B y1 f1) := hr
  have HW1 : Hid (Below W.heap.size W w1) := (HW0.out.alloc HW0.out.size _).grown hg (HW0.out.alloc HW0.out.size _).size (fun j hj => by cases hj; exact HP.out.1)
  clear hr hg hgs
  have c0 : w1.cell? ⟨g, 0, none⟩ = some (.int .i64 0) := by rw [cell_of_row _ _ _ _ _ _ HU1.out]; rfl
  have z0 : w1.frozen? ⟨g, 0, none⟩ = false := by simp [World.frozen?, HU1.out]
  obtain ⟨x1, hx1⟩ : ∃ x : World, x = w1.setCell ⟨g, 0, none⟩ (.int .i64 (n1 : Nat)) := ⟨_, rfl⟩
  have HG1x : Hid (w1.grownBy x1 (some g)) := by unfold Hid; rw [hx1]; exact gset1 _ _ _ _
  have HU1x : Hid (UBx x1 g #[.int .i64 (n1 : Nat), .int .u64 0, .int .u64 0, .int .i64 0, .int .i64 0, .int .i64 0, .slice none 0 0, .int .i64 0, .slice none 0 0]) := by unfold Hid UBx; rw [hx1, heap_setCell_same w1 g 0 _ _ _ HU1.out]; rfl
  have HR1x : Hid (RS x1 p B y1 f1) := RS.grown HR1.out HG1x.out (.inr HPG.out)
  have HW1x : Hid (Below W.heap.size W x1) := HW1.out.grown HG1x.out HW1.out.size (fun j hj => by cases hj; have := HP.out; have := HPG.out; omega)
  go_wp2_with fail
  rw [← hx1]
  clear hx1 c0 z0
  refine Calls.mono (kindOf_t _ _ _ HK.out _) ?_
  rintro er1 w2 ⟨rfl, hb⟩
  have HU2 : Hid (UBx w2 g #[.int .i64 (n1 : Nat), .int .u64 0, .int .u64 0, .int .i64 0, .int .i64 0, .int .i64 0, .slice none 0 0, .int .i64 0, .slice none 0 0]) := (hb.block g (Array.getElem?_eq_some_iff.1 HU1x.out).1).trans HU1x.out
  have HR2 : Hid (RS w2 p B y1 f1) := RS.below HR1x.out hb
  have HW2 : Hid (Below W.heap.size W w2) := below_next HW1x.out hb
  have HS2 : Hid (g < w2.heap.size) := (Array.getElem?_eq_some_iff.1 HU2.out).1
  clear hb
  go_wp2_with fail
  refine Calls.mono (must_t false _ (RS.below HR2.out (al (Below.refl _ _) _))) ?_
  rintro er1 w3 ⟨rfl, hr, hg⟩
  have HU3 : Hid (UBx w3 g #[.int .i64 (n1 : Nat), .int .u64 0, .int .u64 0, .int .i64 0, .int .i64 0, .int .i64 0, .slice none 0 0, .int .i64 0, .slice none 0 0]) := gr_box hg (by have := HPG.out; omega) (((al (Below.refl _ _) _).block g HS2.out).trans HU2.out)
  have HK3 : Hid (w3.heap[w2.heap.size]? = some (.cells #[.int .i64 0, .nilFunc, .nilFunc, .nilFunc] 56 (0, 0))) := gr_box hg (by have := HPG.out; have := HS2.out; omega) (heap_alloc_new w2 _)
  have HR3 : Hid (RS w3 p B y1 (mustF false f1)) := hr
  have HW3 : Hid (Below W.heap.size W w3) := (HW2.out.alloc HW2.out.size _).grown hg (HW2.out.alloc HW2.out.size _).size (fun j hj => by cases hj; exact HP.out.1)
  clear hr hg
  obtain ⟨κ, hκ⟩ : ∃ κ, κ = w2.heap.size := ⟨_, rfl⟩
  rw [← hκ] at HK3 HS2 ⊢
  clear hκ
  go_wp2_with fail
  refine Calls.mono (number_t (m := mxU) _ HR3.out HE2.out) ?_
  rintro er1 w4 ⟨rfl, hr, hg⟩
  have HU4 : Hid (UBx w4 g #[.int .i64 (n1 : Nat), .int .u64 0, .int .u64 0, .int .i64 0, .int .i64 0, .int .i64 0, .slice none 0 0, .int .i64 0, .slice none 0 0]) := gr_box hg (by have := HPG.out; omega) HU3.out
  have HK4 : Hid (w4.heap[κ]? = some (.cells #[.int .i64 0, .nilFunc, .nilFunc, .nilFunc] 56 (0, 0))) := gr_box hg (by have := HPG.out; have := HS2.out; omega) HK3.out
  have HR4 : Hid (RS w4 p B y2 f2) := hr
  have HW4 : Hid (Below W.heap.size W w4) := HW3.out.grown hg HW3.out.size (fun j hj => by cases hj; exact HP.out.1)
  clear hr hg
  have c1 : w4.cell? ⟨g, 1, none⟩ = some (.int .u64 0) := by rw [cell_of_row _ _ _ _ _ _ HU4.out]; rfl
  have z1 : w4.frozen? ⟨g, 1, none⟩ = false := by simp [World.frozen?, HU4.out]
  obtain ⟨x4, hx4⟩ : ∃ x : World, x = w4.setCell ⟨g, 1, none⟩ (.int .u64 (n2 : Nat)) := ⟨_, rfl⟩
  have HG4x : Hid (w4.grownBy x4 (some g)) := by unfold Hid; rw [hx4]; exact gset1 _ _ _ _
  have HU4x : Hid (UBx x4 g #[.int .i64 (n1 : Nat), .int .u64 (n2 : Nat), .int .u64 0, .int .i64 0, .int .i64 0, .int .i64 0, .slice none 0 0, .int .i64 0, .slice none 0 0]) := by unfold Hid UBx; rw [hx4, heap_setCell_same w4 g 1 _ _ _ HU4.out]; rfl
  have HK4x : Hid (x4.heap[κ]? = some (.cells #[.int .i64 0, .nilFunc, .nilFunc, .nilFunc] 56 (0, 0))) := gr_box HG4x.out (by have := HS2.out; omega) HK4.out
  have HR4x : Hid (RS x4 p B y2 f2) := RS.grown HR4.out HG4x.out (.inr HPG.out)
  have HW4x : Hid (Below W.heap.size W x4) := HW4.out.grown HG4x.out HW4.out.size (fun j hj => by cases hj; have := HP.out; have := HPG.out; omega)
  go_wp2_with (go_at_call 37; refine Calls.mono (goodName_b _ b2 HQ2.out _) ?_; rintro er1 wq ⟨rfl, hq⟩; have hq := hq.symm; subst hq)
  rw [← hx4]
  clear hx4 c1 z1
  refine Calls.mono (must_t b2 _ HR4x.out) ?_
  rintro er1 w5 ⟨rfl, hr, hg⟩
  have HU5 : Hid (UBx w5 g #[.int .i64 (n1 : Nat), .int .u64 (n2 : Nat), .int .u64 0, .int .i64 0, .int .i64 0, .int .i64 0, .slice none 0 0, .int .i64 0, .slice none 0 0]) := gr_box hg (by have := HPG.out; omega) HU4x.out
  have HK5 : Hid (w5.heap[κ]? = some (.cells #[.int .i64 0, .nilFunc, .nilFunc, .nilFunc] 56 (0, 0))) := gr_box hg (by have := HPG.out; have := HS2.out; omega) HK4x.out
  have HR5 : Hid (RS w5 p B y2 (mustF b2 f2)) := hr
  have HW5 : Hid (Below W.heap.size W w5) := HW4x.out.grown hg HW4x.out.size (fun j hj => by cases hj; exact HP.out.1)
  clear hr hg
  go_wp2_with fail
  refine Calls.mono (number_t (m := mxU) _ HR5.out HE3.out) ?_
  rintro er1 w6 ⟨rfl, hr, hg⟩
  have HU6 : Hid (UBx w6 g #[.int .i64 (n1 : Nat), .int .u64 (n2 : Nat), .int .u64 0, .int .i64 0, .int .i64 0, .int .i64 0, .slice none 0 0, .int .i64 0, .slice none 0 0]) := gr_box hg (by have := HPG.out; omega) HU5.out
  have HK6 : Hid (w6.heap[κ]? = some (.cells #[.int .i64 0, .nilFunc, .nilFunc, .nilFunc] 56 (0, 0))) := gr_box hg (by have := HPG.out; have := HS2.out; omega) HK5.out
  have HR6 : Hid (RS w6 p B y3 f3) := hr
  have HW6 : Hid (Below W.heap.size W w6) := HW5.out.grown hg HW5.out.size (fun j hj => by cases hj; exact HP.out.1)
  clear hr hg
  have c2 : w6.cell? ⟨g, 2, none⟩ = some (.int .u64 0) := by rw [cell_of_row _ _ _ _ _ _ HU6.out]; rfl
  have z2 : w6.frozen? ⟨g, 2, none⟩ = false := by simp [World.frozen?, HU6.out]
  obtain ⟨x6, hx6⟩ : ∃ x : World, x = w6.setCell ⟨g, 2, none⟩ (.int .u64 (n3 : Nat)) := ⟨_, rfl⟩
  have HG6x : Hid (w6.grownBy x6 (some g)) := by unfold Hid; rw [hx6]; exact gset1 _ _ _ _
  have HU6x : Hid (UBx x6 g #[.int .i64 (n1 : Nat), .int .u64 (n2 : Nat), .int .u64 (n3 : Nat), .int .i64 0, .int .i64 0, .int .i64 0, .slice none 0 0, .int .i64 0, .slice none 0 0]) := by unfold Hid UBx; rw [hx6, heap_setCell_same w6 g 2 _ _ _ HU6.out]; rfl
  have HK6x : Hid (x6.heap[κ]? = some (.cells #[.int .i64 0, .nilFunc, .nilFunc, .nilFunc] 56 (0, 0))) := gr_box HG6x.out (by have := HS2.out; omega) HK6.out
  have HR6x : Hid (RS x6 p B y3 f3) := RS.grown HR6.out HG6x.out (.inr HPG.out)
  have HW6x : Hid (Below W.heap.size W x6) := HW6.out.grown HG6x.out HW6.out.size (fun j hj => by cases hj; have := HP.out; have := HPG.out; omega)
  go_wp2_with (go_at_call 37; refine Calls.mono (goodName_b _ b3 HQ3.out _) ?_; rintro er1 wq ⟨rfl, hq⟩; have hq := hq.symm; subst hq)
  rw [← hx6]
  clear hx6 c2 z2
  refine Calls.mono (must_t b3 _ HR6x.out) ?_
  rintro er1 w7 ⟨rfl, hr, hg⟩
  have HU7 : Hid (UBx w7 g #[.int .i64 (n1 : Nat), .int .u64 (n2 : Nat), .int .u64 (n3 : Nat), .int .i64 0, .int .i64 0, .int .i64 0, .slice none 0 0, .int .i64 0, .slice none 0 0]) := gr_box hg (by have := HPG.out; omega) HU6x.out
  have HK7 : Hid (w7.heap[κ]? = some (.cells #[.int .i64 0, .nilFunc, .nilFunc, .nilFunc] 56 (0, 0))) := gr_box hg (by have := HPG.out; have := HS2.out; omega) HK6x.out
  have HR7 : Hid (RS w7 p B y3 (mustF b3 f3)) := hr
  have HW7 : Hid (Below W.heap.size W w7) := HW6x.out.grown hg HW6x.out.size (fun j hj => by cases hj; exact HP.out.1)
  clear hr hg
  go_wp2_with fail
  refine Calls.mono (err_t _ HR7.out) ?_
  rintro er1 u ⟨rfl, hu⟩
  rw [hu]
  clear hu u
  have hfb : (mustF b3 f3 == 0) = false := by simpa using hf
  obtain ⟨F, hF⟩ : ∃ F, F = mustF b3 f3 := ⟨_, rfl⟩
  rw [← hF] at hf hfb HR7 ⊢
  have HFF : Hid (F = mustF b3 f3) := hF
  clear hF
  go_wp2_with (first
    | (refine wpList_load_g (by rfl) 38 _ rfl g 0 (by rfl) [.int .i64 (n1 : Nat), .int .u64 (n2 : Nat), .int .u64 (n3 : Nat), .int .i64 0, .int .i64 0, .int .i64 0, .slice none 0 0, .int .i64 0, .slice none 0 0] _ (box_range HU7.out) Tryd.underlying38 rfl info_un ?_)
    | (refine wpList_store_mid rfl 38 _ _ rfl g 0 #[.int .i64 (n1 : Nat), .int .u64 (n2 : Nat), .int .u64 (n3 : Nat), .int .i64 0, .int .i64 0, .int .i64 0, .slice none 0 0, .int .i64 0, .slice none 0 0] rfl rfl (box_there HU7.out rfl) (by kernel_rfl) (by simp [Value.oneCell']) ?_))
  (try simp only [Exit.inBlock, Exit.then])
  refine bodyPost_ret (results_cell_row Tryd.results31 _ _ g 38 #[.int .i64 (n1 : Nat), .int .u64 (n2 : Nat), .int .u64 (n3 : Nat), .int .i64 0, .int .i64 0, .int .i64 0, .slice none 0 0, .int .i64 0, .slice none 0 0] (0, 0) _ rfl (box_set HU7.out rfl) Tryd.underlying38 rfl (by kernel_rfl)) rfl ?_
  have hfin := setCells_grown g [.int .i64 (n1 : Nat), .int .u64 (n2 : Nat), .int .u64 (n3 : Nat), .int .i64 0, .int .i64 0, .int .i64 0, .slice none 0 0, .int .i64 0, .slice none 0 0] 0 w7
  rw [← HFF.out, ← HGS.out]
  exact ⟨none, 0, none, 0, rfl, World.ownsRow_nil _ _ _ _, OwnR.nil _ _, RS.grown HR7.out hfin (.inr HPG.out), HW7.out.grown hfin HW7.out.size (fun j hj => by cases hj; have := HP.out; have := HPG.out; omega)⟩
theorem read_1a {p B n1 n2 n3 : Nat} {ys y1 y2 y3 : List UInt8} {f f1 f2 f3 : Int} (b2 b3 : Bool) (W w : World) (h : RS w p B ys f) (hW : Below W.heap.size W w) (hpW : W.heap.size ≤ p)
    (e1 : nmS mxU (ys, f) = (1, y1, f1)) (e2 : nmS mxU (y1, mustF true f1) = (n2, y2, f2)) (hb2 : b2 = true ↔ nameOk (n2 : Int)) (e3 : nmS mxU (y2, mustF b2 f2) = (n3, y3, f3)) (hb3 : b3 = true ↔ nameOk (n3 : Int)) (hf : ¬ mustF b3 f3 = 0) :
    Calls Tryd.prog 31 #[.pointer (some ⟨p, 0, none⟩)] w fun er w' => RdOut W p B w.heap.size ⟨1, (n2 : Nat), (n3 : Nat), 0, 0, 0, [], 0, []⟩ y3 (mustF b3 f3) er w' := by
  have HP : Hid (W.heap.size ≤ p ∧ p < w.heap.size) := ⟨hpW, h.lt⟩
  have HE1 : Hid _ := e1
  have HE2 : Hid _ := e2
  have HE3 : Hid _ := e3
  have HQ2 : Hid _ := hb2
  have HQ3 : Hid _ := hb3
  have HR0 : Hid (RS w p B ys f) := h
  have HW0 : Hid (Below W.heap.size W w) := hW
  have HK : Hid (KindIs (1 : Int) kd1 true) := .inl ⟨rfl, rfl, rfl⟩
  clear h hW hpW e1 e2 e3 hb2 hb3
  have hsf := fun (u : World) (a : Addr) (n : Nat) => run_store Tryd.prog u a (.func (.func n) #[] #[]) .plain rfl
  have hsn := fun (u : World) (a : Addr) => run_store Tryd.prog u a .nilFunc .plain rfl
  go_enter Tryd.func31, Tryd.ntmps31
  go_wp2_with fail
  refine Calls.mono (small_t _ (RS.below HR0.out (al (Below.refl _ _) _)) HE1.out) ?_
  rintro er1 w1 ⟨rfl, hr, hg⟩
  obtain ⟨g, hgs⟩ : ∃ g, g = w.heap.size := ⟨_, rfl⟩
  rw [← hgs]
  have HGS : Hid (g = w.heap.size) := hgs
  have HPG : Hid (p < g) := by unfold Hid; rw [hgs]; exact HP.out.2
  have HU1 : Hid (UBx w1 g #[.int .i64 0, .int .u64 0, .int .u64 0, .int .i64 0, .int .i64 0, .int .i64 0, .slice none 0 0, .int .i64 0, .slice none 0 0]) := by unfold Hid; rw [hgs]; exact gr_box hg (by have := HP.out; omega) (heap_alloc_new w _)
  have HR1 : Hid (RS w1 p B y1 f1) := hr
  have HW1 : Hid (Below W.heap.size W w1) := (HW0.out.alloc HW0.out.size _).grown hg (HW0.out.alloc HW0.out.size _).size (fun j hj => by cases hj; exact HP.out.1)
  clear hr hg hgs
  have c0 : w1.cell? ⟨g, 0, none⟩ = some (.int .i64 0) := by rw [cell_of_row _ _ _ _ _ _ HU1.out]; rfl
  have z0 : w1.frozen? ⟨g, 0, none⟩ = false := by simp [World.frozen?, HU1.out]
  obtain ⟨x1, hx1⟩ : ∃ x : World, x = w1.setCell ⟨g, 0, none⟩ (.int .i64 1) := ⟨_, rfl⟩
  have HG1x : Hid (w1.grownBy x1 (some g)) := by unfold Hid; rw [hx1]; exact gset1 _ _ _ _
  have HU1x : Hid (UBx x1 g #[.int .i64 1, .int .u64 0, .int .u64 0, .int .i64 0, .int .i64 0, .int .i64 0, .slice none 0 0, .int .i64 0, .slice none 0 0]) := by unfold Hid UBx; rw [hx1, heap_setCell_same w1 g 0 _ _ _ HU1.out]; rfl
  have HR1x : Hid (RS x1 p B y1 f1) := RS.grown HR1.out HG1x.out (.inr HPG.out)
  have HW1x : Hid (Below W.heap.size W x1) := HW1.out.grown HG1x.out HW1.out.size (fun j hj => by cases hj; have := HP.out; have := HPG.out; omega)
  go_wp2_with fail
  rw [← hx1]
  clear hx1 c0 z0
  refine Calls.mono (kindOf_t _ _ _ HK.out _) ?_
  rintro er1 w2 ⟨rfl, hb⟩
  have HU2 : Hid (UBx w2 g #[.int .i64 1, .int .u64 0, .int .u64 0, .int .i64 0, .int .i64 0, .int .i64 0, .slice none 0 0, .int .i64 0, .slice none 0 0]) := (hb.block g (Array.getElem?_eq_some_iff.1 HU1x.out).1).trans HU1x.out
  have HR2 : Hid (RS w2 p B y1 f1) := RS.below HR1x.out hb
  have HW2 : Hid (Below W.heap.size W w2) := below_next HW1x.out hb
  have HS2 : Hid (g < w2.heap.size) := (Array.getElem?_eq_some_iff.1 HU2.out).1
  clear hb
  go_wp2_with fail
  refine Calls.mono (must_t true _ (RS.below HR2.out (al (Below.refl _ _) _))) ?_
  rintro er1 w3 ⟨rfl, hr, hg⟩
  have HU3 : Hid (UBx w3 g #[.int .i64 1, .int .u64 0, .int .u64 0, .int .i64 0, .int .i64 0, .int .i64 0, .slice none 0 0, .int .i64 0, .slice none 0 0]) := gr_box hg (by have := HPG.out; omega) (((al (Below.refl _ _) _).block g HS2.out).trans HU2.out)
  have HK3 : Hid (w3.heap[w2.heap.size]? = some (.cells #[.int .i64 1, .func (.func 58) #[] #[], .func (.func 59) #[] #[], .func (.func 60) #[] #[]] 56 (0, 0))) := gr_box hg (by have := HPG.out; have := HS2.out; omega) (heap_alloc_new w2 _)
  have HR3 : Hid (RS w3 p B y1 (mustF true f1)) := hr
  have HW3 : Hid (Below W.heap.size W w3) := (HW2.out.alloc HW2.out.size _).grown hg (HW2.out.alloc HW2.out.size _).size (fun j hj => by cases hj; exact HP.out.1)
  clear hr hg
  obtain ⟨κ, hκ⟩ : ∃ κ, κ = w2.heap.size := ⟨_, rfl⟩
  rw [← hκ] at HK3 HS2 ⊢
  clear hκ
  go_wp2_with fail
  refine Calls.mono (number_t (m := mxU) _ HR3.out HE2.out) ?_
  rintro er1 w4 ⟨rfl, hr, hg⟩
  have HU4 : Hid (UBx w4 g #[.int .i64 1, .int .u64 0, .int .u64 0, .int .i64 0, .int .i64 0, .int .i64 0, .slice none 0 0, .int .i64 0, .slice none 0 0]) := gr_box hg (by have := HPG.out; omega) HU3.out
  have HK4 : Hid (w4.heap[κ]? = some (.cells #[.int .i64 1, .func (.func 58) #[] #[], .func (.func 59) #[] #[], .func (.func 60) #[] #[]] 56 (0, 0))) := gr_box hg (by have := HPG.out; have := HS2.out; omega) HK3.out
  have HR4 : Hid (RS w4 p B y2 f2) := hr
  have HW4 : Hid (Below W.heap.size W w4) := HW3.out.grown hg HW3.out.size (fun j hj => by cases hj; exact HP.out.1)
  clear hr hg
  have c1 : w4.cell? ⟨g, 1, none⟩ = some (.int .u64 0) := by rw [cell_of_row _ _ _ _ _ _ HU4.out]; rfl
  have z1 : w4.frozen? ⟨g, 1, none⟩ = false := by simp [World.frozen?, HU4.out]
  obtain ⟨x4, hx4⟩ : ∃ x : World, x = w4.setCell ⟨g, 1, none⟩ (.int .u64 (n2 : Nat)) := ⟨_, rfl⟩
  have HG4x : Hid (w4.grownBy x4 (some g)) := by unfold Hid; rw [hx4]; exact gset1 _ _ _ _
  have HU4x : Hid (UBx x4 g #[.int .i64 1, .int .u64 (n2 : Nat), .int .u64 0, .int .i64 0, .int .i64 0, .int .i64 0, .slice none 0 0, .int .i64 0, .slice none 0 0]) := by unfold Hid UBx; rw [hx4, heap_setCell_same w4 g 1 _ _ _ HU4.out]; rfl
  have HK4x : Hid (x4.heap[κ]? = some (.cells #[.int .i64 1, .func (.func 58) #[] #[], .func (.func 59) #[] #[], .func (.func 60) #[] #[]] 56 (0, 0))) := gr_box HG4x.out (by have := HS2.out; omega) HK4.out
  have HR4x : Hid (RS x4 p B y2 f2) := RS.grown HR4.out HG4x.out (.inr HPG.out)
  have HW4x : Hid (Below W.heap.size W x4) := HW4.out.grown HG4x.out HW4.out.size (fun j hj => by cases hj; have := HP.out; have := HPG.out; omega)
  go_wp2_with (go_at_call 37; refine Calls.mono (goodName_b _ b2 HQ2.out _) ?_; rintro er1 wq ⟨rfl, hq⟩; have hq := hq.symm; subst hq)
  rw [← hx4]
  clear hx4 c1 z1
  refine Calls.mono (must_t b2 _ HR4x.out) ?_
  rintro er1 w5 ⟨rfl, hr, hg⟩
  have HU5 : Hid (UBx w5 g #[.int .i64 1, .int .u64 (n2 : Nat), .int .u64 0, .int .i64 0, .int .i64 0, .int .i64 0, .slice none 0 0, .int .i64 0, .slice none 0 0]) := gr_box hg (by have := HPG.out; omega) HU4x.out
  have HK5 : Hid (w5.heap[κ]? = some (.cells #[.int .i64 1, .func (.func 58) #[] #[], .func (.func 59) #[] #[], .func (.func 60) #[] #[]] 56 (0, 0))) := gr_box hg (by have := HPG.out; have := HS2.out; omega) HK4x.out
  have HR5 : Hid (RS w5 p B y2 (mustF b2 f2)) := hr
  have HW5 : Hid (Below W.heap.size W w5) := HW4x.out.grown hg HW4x.out.size (fun j hj => by cases hj; exact HP.out.1)
  clear hr hg
  go_wp2_with fail
  refine Calls.mono (number_t (m := mxU) _ HR5.out HE3.out) ?_
  rintro er1 w6 ⟨rfl, hr, hg⟩
  have HU6 : Hid (UBx w6 g #[.int .i64 1, .int .u64 (n2 : Nat), .int .u64 0, .int .i64 0, .int .i64 0, .int .i64 0, .slice none 0 0, .int .i64 0, .slice none 0 0]) := gr_box hg (by have := HPG.out; omega) HU5.out
  have HK6 : Hid (w6.heap[κ]? = some (.cells #[.int .i64 1, .func (.func 58) #[] #[], .func (.func 59) #[] #[], .func (.func 60) #[] #[]] 56 (0, 0))) := gr_box hg (by have := HPG.out; have := HS2.out; omega) HK5.out
  have HR6 : Hid (RS w6 p B y3 f3) := hr
  have HW6 : Hid (Below W.heap.size W w6) := HW5.out.grown hg HW5.out.size (fun j hj => by cases hj; exact HP.out.1)
  clear hr hg
  have c2 : w6.cell? ⟨g, 2, none⟩ = some (.int .u64 0) := by rw [cell_of_row _ _ _ _ _ _ HU6.out]; rfl
  have z2 : w6.frozen? ⟨g, 2, none⟩ = false := by simp [World.frozen?, HU6.out]
  obtain ⟨x6, hx6⟩ : ∃ x : World, x = w6.setCell ⟨g, 2, none⟩ (.int .u64 (n3 : Nat)) := ⟨_, rfl⟩
  have HG6x : Hid (w6.grownBy x6 (some g)) := by unfold Hid; rw [hx6]; exact gset1 _ _ _ _
  have HU6x : Hid (UBx x6 g #[.int .i64 1, .int .u64 (n2 : Nat), .int .u64 (n3 : Nat), .int .i64 0, .int .i64 0, .int .i64 0, .slice none 0 0, .int .i64 0, .slice none 0 0]) := by unfold Hid UBx; rw [hx6, heap_setCell_same w6 g 2 _ _ _ HU6.out]; rfl
  have HK6x : Hid (x6.heap[κ]? = some (.cells #[.int .i64 1, .func (.func 58) #[] #[], .func (.func 59) #[] #[], .func (.func 60) #[] #[]] 56 (0, 0))) := gr_box HG6x.out (by have := HS2.out; omega) HK6.out
  have HR6x : Hid (RS x6 p B y3 f3) := RS.grown HR6.out HG6x.out (.inr HPG.out)
  have HW6x : Hid (Below W.heap.size W x6) := HW6.out.grown HG6x.out HW6.out.size (fun j hj => by cases hj; have := HP.out; have := HPG.out; omega)
  go_wp2_with (go_at_call 37; refine Calls.mono (goodName_b _ b3 HQ3.out _) ?_; rintro er1 wq ⟨rfl, hq⟩; have hq := hq.symm; subst hq)
  rw [← hx6]
  clear hx6 c2 z2
  refine Calls.mono (must_t b3 _ HR6x.out) ?_
  rintro er1 w7 ⟨rfl, hr, hg⟩
  have HU7 : Hid (UBx w7 g #[.int .i64 1, .int .u64 (n2 : Nat), .int .u64 (n3 : Nat), .int .i64 0, .int .i64 0, .int .i64 0, .slice none 0 0, .int .i64 0, .slice none 0 0]) := gr_box hg (by have := HPG.out; omega) HU6x.out
  have HK7 : Hid (w7.heap[κ]? = some (.cells #[.int .i64 1, .func (.func 58) #[] #[], .func (.func 59) #[] #[], .func (.func 60) #[] #[]] 56 (0, 0))) := gr_box hg (by have := HPG.out; have := HS2.out; omega) HK6x.out
  have HR7 : Hid (RS w7 p B y3 (mustF b3 f3)) := hr
  have HW7 : Hid (Below W.heap.size W w7) := HW6x.out.grown hg HW6x.out.size (fun j hj => by cases hj; exact HP.out.1)
  clear hr hg
  go_wp2_with fail
  refine Calls.mono (err_t _ HR7.out) ?_
  rintro er1 u ⟨rfl, hu⟩
  rw [hu]
  clear hu u
  have hfb : (mustF b3 f3 == 0) = false := by simpa using hf
  obtain ⟨F, hF⟩ : ∃ F, F = mustF b3 f3 := ⟨_, rfl⟩
  rw [← hF] at hf hfb HR7 ⊢
  have HFF : Hid (F = mustF b3 f3) := hF
  clear hF
  go_wp2_with (first
    | (refine wpList_load_g (by rfl) 38 _ rfl g 0 (by rfl) [.int .i64 1, .int .u64 (n2 : Nat), .int .u64 (n3 : Nat), .int .i64 0, .int .i64 0, .int .i64 0, .slice none 0 0, .int .i64 0, .slice none 0 0] _ (box_range HU7.out) Tryd.underlying38 rfl info_un ?_)
    | (refine wpList_store_mid rfl 38 _ _ rfl g 0 #[.int .i64 1, .int .u64 (n2 : Nat), .int .u64 (n3 : Nat), .int .i64 0, .int .i64 0, .int .i64 0, .slice none 0 0, .int .i64 0, .slice none 0 0] rfl rfl (box_there HU7.out rfl) (by kernel_rfl) (by simp [Value.oneCell']) ?_))
  (try simp only [Exit.inBlock, Exit.then])
  refine bodyPost_ret (results_cell_row Tryd.results31 _ _ g 38 #[.int .i64 1, .int .u64 (n2 : Nat), .int .u64 (n3 : Nat), .int .i64 0, .int .i64 0, .int .i64 0, .slice none 0 0, .int .i64 0, .slice none 0 0] (0, 0) _ rfl (box_set HU7.out rfl) Tryd.underlying38 rfl (by kernel_rfl)) rfl ?_
  have hfin := setCells_grown g [.int .i64 1, .int .u64 (n2 : Nat), .int .u64 (n3 : Nat), .int .i64 0, .int .i64 0, .int .i64 0, .slice none 0 0, .int .i64 0, .slice none 0 0] 0 w7
  rw [← HFF.out, ← HGS.out]
  exact ⟨none, 0, none, 0, rfl, World.ownsRow_nil _ _ _ _, OwnR.nil _ _, RS.grown HR7.out hfin (.inr HPG.out), HW7.out.grown hfin HW7.out.size (fun j hj => by cases hj; have := HP.out; have := HPG.out; omega)⟩
theorem read_2a {p B n1 n2 n3 : Nat} {ys y1 y2 y3 : List UInt8} {f f1 f2 f3 : Int} (b2 b3 : Bool) (W w : World) (h : RS w p B ys f) (hW : Below W.heap.size W w) (hpW : W.heap.size ≤ p)
    (e1 : nmS mxU (ys, f) = (2, y1, f1)) (e2 : nmS mxU (y1, mustF true f1) = (n2, y2, f2)) (hb2 : b2 = true ↔ nameOk (n2 : Int)) (e3 : nmS mxU (y2, mustF b2 f2) = (n3, y3, f3)) (hb3 : b3 = true ↔ nameOk (n3 : Int)) (hf : ¬ mustF b3 f3 = 0) :
    Calls Tryd.prog 31 #[.pointer (some ⟨p, 0, none⟩)] w fun er w' => RdOut W p B w.heap.size ⟨2, (n2 : Nat), (n3 : Nat), 0, 0, 0, [], 0, []⟩ y3 (mustF b3 f3) er w' := by
  have HP : Hid (W.heap.size ≤ p ∧ p < w.heap.size) := ⟨hpW, h.lt⟩
  have HE1 : Hid _ := e1
  have HE2 : Hid _ := e2
  have HE3 : Hid _ := e3
  have HQ2 : Hid _ := hb2
  have HQ3 : Hid _ := hb3
  have HR0 : Hid (RS w p B ys f) := h
  have HW0 : Hid (Below W.heap.size W w) := hW
  have HK : Hid (KindIs (2 : Int) kd2 true) := .inr (.inl ⟨rfl, rfl, rfl⟩)
  clear h hW hpW e1 e2 e3 hb2 hb3
  have hsf := fun (u : World) (a : Addr) (n : Nat) => run_store Tryd.prog u a (.func (.func n) #[] #[]) .plain rfl
  have hsn := fun (u : World) (a : Addr) => run_store Tryd.prog u a .nilFunc .plain rfl
  go_enter Tryd.func31, Tryd.ntmps31
  go_wp2_with fail
  refine Calls.mono (small_t _ (RS.below HR0.out (al (Below.refl _ _) _)) HE1.out) ?_
  rintro er1 w1 ⟨rfl, hr, hg⟩
  obtain ⟨g, hgs⟩ : ∃ g, g = w.heap.size := ⟨_, rfl⟩
  rw [← hgs]
  have HGS : Hid (g = w.heap.size) := hgs
  have HPG : Hid (p < g) := by unfold Hid; rw [hgs]; exact HP.out.2
  have HU1 : Hid (UBx w1 g #[.int .i64 0, .int .u64 0, .int .u64 0, .int .i64 0, .int .i64 0, .int .i64 0, .slice none 0 0, .int .i64 0, .slice none 0 0]) := by unfold Hid; rw [hgs]; exact gr_box hg (by have := HP.out; omega) (heap_alloc_new w _)
  have HR1 : Hid (RS w1 p B y1 f1) := hr
  have HW1 : Hid (Below W.heap.size W w1) := (HW0.out.alloc HW0.out.size _).grown hg (HW0.out.alloc HW0.out.size _).size (fun j hj => by cases hj; exact HP.out.1)
  clear hr hg hgs
  have c0 : w1.cell? ⟨g, 0, none⟩ = some (.int .i64 0) := by rw [cell_of_row _ _ _ _ _ _ HU1.out]; rfl
  have z0 : w1.frozen? ⟨g, 0, none⟩ = false := by simp [World.frozen?, HU1.out]
  obtain ⟨x1, hx1⟩ : ∃ x : World, x = w1.setCell ⟨g, 0, none⟩ (.int .i64 2) := ⟨_, rfl⟩
  have HG1x : Hid (w1.grownBy x1 (some g)) := by unfold Hid; rw [hx1]; exact gset1 _ _ _ _
  have HU1x : Hid (UBx x1 g #[.int .i64 2, .int .u64 0, .int .u64 0, .int .i64 0, .int .i64 0, .int .i64 0, .slice none 0 0, .int .i64 0, .slice none 0 0]) := by unfold Hid UBx; rw [hx1, heap_setCell_same w1 g 0 _ _ _ HU1.out]; rfl
  have HR1x : Hid (RS x1 p B y1 f1) := RS.grown HR1.out HG1x.out (.inr HPG.out)
  have HW1x : Hid (Below W.heap.size W x1) := HW1.out.grown HG1x.out HW1.out.size (fun j hj => by cases hj; have := HP.out; have := HPG.out; omega)
  go_wp2_with fail
  rw [← hx1]
  clear hx1 c0 z0
  refine Calls.mono (kindOf_t _ _ _ HK.out _) ?_
  rintro er1 w2 ⟨rfl, hb⟩
  have HU2 : Hid (UBx w2 g #[.int .i64 2, .int .u64 0, .int .u64 0, .int .i64 0, .int .i64 0, .int .i64 0, .slice none 0 0, .int .i64 0, .slice none 0 0]) := (hb.block g (Array.getElem?_eq_some_iff.1 HU1x.out).1).trans HU1x.out
  have HR2 : Hid (RS w2 p B y1 f1) := RS.below HR1x.out hb
  have HW2 : Hid (Below W.heap.size W w2) := below_next HW1x.out hb
  have HS2 : Hid (g < w2.heap.size) := (Array.getElem?_eq_some_iff.1 HU2.out).1
  clear hb
  go_wp2_with fail
  refine Calls.mono (must_t true _ (RS.below HR2.out (al (Below.refl _ _) _))) ?_
  rintro er1 w3 ⟨rfl, hr, hg⟩
  have HU3 : Hid (UBx w3 g #[.int .i64 2, .int .u64 0, .int .u64 0, .int .i64 0, .int .i64 0, .int .i64 0, .slice none 0 0, .int .i64 0, .slice none 0 0]) := gr_box hg (by have := HPG.out; omega) (((al (Below.refl _ _) _).block g HS2.out).trans HU2.out)
  have HK3 : Hid (w3.heap[w2.heap.size]? = some (.cells #[.int .i64 2, .func (.func 61) #[] #[], .func (.func 62) #[] #[], .func (.func 63) #[] #[]] 56 (0, 0))) := gr_box hg (by have := HPG.out; have := HS2.out; omega) (heap_alloc_new w2 _)
  have HR3 : Hid (RS w3 p B y1 (mustF true f1)) := hr
  have HW3 : Hid (Below W.heap.size W w3) := (HW2.out.alloc HW2.out.size _).grown hg (HW2.out.alloc HW2.out.size _).size (fun j hj => by cases hj; exact HP.out.1)
  clear hr hg
  obtain ⟨κ, hκ⟩ : ∃ κ, κ = w2.heap.size := ⟨_, rfl⟩
  rw [← hκ] at HK3 HS2 ⊢
  clear hκ
  go_wp2_with fail
  refine Calls.mono (number_t (m := mxU) _ HR3.out HE2.out) ?_
  rintro er1 w4 ⟨rfl, hr, hg⟩
  have HU4 : Hid (UBx w4 g #[.int .i64 2, .int .u64 0, .int .u64 0, .int .i64 0, .int .i64 0, .int .i64 0, .slice none 0 0, .int .i64 0, .slice none 0 0]) := gr_box hg (by have := HPG.out; omega) HU3.out
  have HK4 : Hid (w4.heap[κ]? = some (.cells #[.int .i64 2, .func (.func 61) #[] #[], .func (.func 62) #[] #[], .func (.func 63) #[] #[]] 56 (0, 0))) := gr_box hg (by have := HPG.out; have := HS2.out; omega) HK3.out
  have HR4 : Hid (RS w4 p B y2 f2) := hr
  have HW4 : Hid (Below W.heap.size W w4) := HW3.out.grown hg HW3.out.size (fun j hj => by cases hj; exact HP.out.1)
  clear hr hg
  have c1 : w4.cell? ⟨g, 1, none⟩ = some (.int .u64 0) := by rw [cell_of_row _ _ _ _ _ _ HU4.out]; rfl
  have z1 : w4.frozen? ⟨g, 1, none⟩ = false := by simp [World.frozen?, HU4.out]
  obtain ⟨x4, hx4⟩ : ∃ x : World, x = w4.setCell ⟨g, 1, none⟩ (.int .u64 (n2 : Nat)) := ⟨_, rfl⟩
  have HG4x : Hid (w4.grownBy x4 (some g)) := by unfold Hid; rw [hx4]; exact gset1 _ _ _ _
  have HU4x : Hid (UBx x4 g #[.int .i64 2, .int .u64 (n2 : Nat), .int .u64 0, .int .i64 0, .int .i64 0, .int .i64 0, .slice none 0 0, .int .i64 0, .slice none 0 0]) := by unfold Hid UBx; rw [hx4, heap_setCell_same w4 g 1 _ _ _ HU4.out]; rfl
  have HK4x : Hid (x4.heap[κ]? = some (.cells #[.int .i64 2, .func (.func 61) #[] #[], .func (.func 62) #[] #[], .func (.func 63) #[] #[]] 56 (0, 0))) := gr_box HG4x.out (by have := HS2.out; omega) HK4.out
  have HR4x : Hid (RS x4 p B y2 f2) := RS.grown HR4.out HG4x.out (.inr HPG.out)
  have HW4x : Hid (Below W.heap.size W x4) := HW4.out.grown HG4x.out HW4.out.size (fun j hj => by cases hj; have := HP.out; have := HPG.out; omega)
  go_wp2_with (go_at_call 37; refine Calls.mono (goodName_b _ b2 HQ2.out _) ?_; rintro er1 wq ⟨rfl, hq⟩; have hq := hq.symm; subst hq)
  rw [← hx4]
  clear hx4 c1 z1
  refine Calls.mono (must_t b2 _ HR4x.out) ?_
  rintro er1 w5 ⟨rfl, hr, hg⟩
  have HU5 : Hid (UBx w5 g #[.int .i64 2, .int .u64 (n2 : Nat), .int .u64 0, .int .i64 0, .int .i64 0, .int .i64 0, .slice none 0 0, .int .i64 0, .slice none 0 0]) := gr_box hg (by have := HPG.out; omega) HU4x.out
  have HK5 : Hid (w5.heap[κ]? = some (.cells #[.int .i64 2, .func (.func 61) #[] #[], .func (.func 62) #[] #[], .func (.func 63) #[] #[]] 56 (0, 0))) := gr_box hg (by have := HPG.out; have := HS2.out; omega) HK4x.out
  have HR5 : Hid (RS w5 p B y2 (mustF b2 f2)) := hr
  have HW5 : Hid (Below W.heap.size W w5) := HW4x.out.grown hg HW4x.out.size (fun j hj => by cases hj; exact HP.out.1)
  clear hr hg
  go_wp2_with fail
  refine Calls.mono (number_t (m := mxU) _ HR5.out HE3.out) ?_
  rintro er1 w6 ⟨rfl, hr, hg⟩
  have HU6 : Hid (UBx w6 g #[.int .i64 2, .int .u64 (n2 : Nat), .int .u64 0, .int .i64 0, .int .i64 0, .int .i64 0, .slice none 0 0, .int .i64 0, .slice none 0 0]) := gr_box hg (by have := HPG.out; omega) HU5.out
  have HK6 : Hid (w6.heap[κ]? = some (.cells #[.int .i64 2, .func (.func 61) #[] #[], .func (.func 62) #[] #[], .func (.func 63) #[] #[]] 56 (0, 0))) := gr_box hg (by have := HPG.out; have := HS2.out; omega) HK5.out
  have HR6 : Hid (RS w6 p B y3 f3) := hr
  have HW6 : Hid (Below W.heap.size W w6) := HW5.out.grown hg HW5.out.size (fun j hj => by cases hj; exact HP.out.1)
  clear hr hg
  have c2 : w6.cell? ⟨g, 2, none⟩ = some (.int .u64 0) := by rw [cell_of_row _ _ _ _ _ _ HU6.out]; rfl
  have z2 : w6.frozen? ⟨g, 2, none⟩ = false := by simp [World.frozen?, HU6.out]
  obtain ⟨x6, hx6⟩ : ∃ x : World, x = w6.setCell ⟨g, 2, none⟩ (.int .u64 (n3 : Nat)) := ⟨_, rfl⟩
  have HG6x : Hid (w6.grownBy x6 (some g)) := by unfold Hid; rw [hx6]; exact gset1 _ _ _ _
  have HU6x : Hid (UBx x6 g #[.int .i64 2, .int .u64 (n2 : Nat), .int .u64 (n3 : Nat), .int .i64 0, .int .i64 0, .int .i64 0, .slice none 0 0, .int .i64 0, .slice none 0 0]) := by unfold Hid UBx; rw [hx6, heap_setCell_same w6 g 2 _ _ _ HU6.out]; rfl
  have HK6x : Hid (x6.heap[κ]? = some (.cells #[.int .i64 2, .func (.func 61) #[] #[], .func (.func 62) #[] #[], .func (.func 63) #[] #[]] 56 (0, 0))) := gr_box HG6x.out (by have := HS2.out; omega) HK6.out
  have HR6x : Hid (RS x6 p B y3 f3) := RS.grown HR6.out HG6x.out (.inr HPG.out)
  have HW6x : Hid (Below W.heap.size W x6) := HW6.out.grown HG6x.out HW6.out.size (fun j hj => by cases hj; have := HP.out; have := HPG.out; omega)
  go_wp2_with (go_at_call 37; refine Calls.mono (goodName_b _ b3 HQ3.out _) ?_; rintro er1 wq ⟨rfl, hq⟩; have hq := hq.symm; subst hq)
  rw [← hx6]
  clear hx6 c2 z2
  refine Calls.mono (must_t b3 _ HR6x.out) ?_
  rintro er1 w7 ⟨rfl, hr, hg⟩
  have HU7 : Hid (UBx w7 g #[.int .i64 2, .int .u64 (n2 : Nat), .int .u64 (n3 : Nat), .int .i64 0, .int .i64 0, .int .i64 0, .slice none 0 0, .int .i64 0, .slice none 0 0]) := gr_box hg (by have := HPG.out; omega) HU6x.out
  have HK7 : Hid (w7.heap[κ]? = some (.cells #[.int .i64 2, .func (.func 61) #[] #[], .func (.func 62) #[] #[], .func (.func 63) #[] #[]] 56 (0, 0))) := gr_box hg (by have := HPG.out; have := HS2.out; omega) HK6x.out
  have HR7 : Hid (RS w7 p B y3 (mustF b3 f3)) := hr
  have HW7 : Hid (Below W.heap.size W w7) := HW6x.out.grown hg HW6x.out.size (fun j hj => by cases hj; exact HP.out.1)
  clear hr hg
  go_wp2_with fail
  refine Calls.mono (err_t _ HR7.out) ?_
  rintro er1 u ⟨rfl, hu⟩
  rw [hu]
  clear hu u
  have hfb : (mustF b3 f3 == 0) = false := by simpa using hf
  obtain ⟨F, hF⟩ : ∃ F, F = mustF b3 f3 := ⟨_, rfl⟩
  rw [← hF] at hf hfb HR7 ⊢
  have HFF : Hid (F = mustF b3 f3) := hF
  clear hF
  go_wp2_with (first
    | (refine wpList_load_g (by rfl) 38 _ rfl g 0 (by rfl) [.int .i64 2, .int .u64 (n2 : Nat), .int .u64 (n3 : Nat), .int .i64 0, .int .i64 0, .int .i64 0, .slice none 0 0, .int .i64 0, .slice none 0 0] _ (box_range HU7.out) Tryd.underlying38 rfl info_un ?_)
    | (refine wpList_store_mid rfl 38 _ _ rfl g 0 #[.int .i64 2, .int .u64 (n2 : Nat), .int .u64 (n3 : Nat), .int .i64 0, .int .i64 0, .int .i64 0, .slice none 0 0, .int .i64 0, .slice none 0 0] rfl rfl (box_there HU7.out rfl) (by kernel_rfl) (by simp [Value.oneCell']) ?_))
  (try simp only [Exit.inBlock, Exit.then])
  refine bodyPost_ret (results_cell_row Tryd.results31 _ _ g 38 #[.int .i64 2, .int .u64 (n2 : Nat), .int .u64 (n3 : Nat), .int .i64 0, .int .i64 0, .int .i64 0, .slice none 0 0, .int .i64 0, .slice none 0 0] (0, 0) _ rfl (box_set HU7.out rfl) Tryd.underlying38 rfl (by kernel_rfl)) rfl ?_
  have hfin := setCells_grown g [.int .i64 2, .int .u64 (n2 : Nat), .int .u64 (n3 : Nat), .int .i64 0, .int .i64 0, .int .i64 0, .slice none 0 0, .int .i64 0, .slice none 0 0] 0 w7
  rw [← HFF.out, ← HGS.out]
  exact ⟨none, 0, none, 0, rfl, World.ownsRow_nil _ _ _ _, OwnR.nil _ _, RS.grown HR7.out hfin (.inr HPG.out), HW7.out.grown hfin HW7.out.size (fun j hj => by cases hj; have := HP.out; have := HPG.out; omega)⟩
theorem read_3a {p B n1 n2 n3 : Nat} {ys y1 y2 y3 : List UInt8} {f f1 f2 f3 : Int} (b2 b3 : Bool) (W w : World) (h : RS w p B ys f) (hW : Below W.heap.size W w) (hpW : W.heap.size ≤ p)
    (e1 : nmS mxU (ys, f) = (3, y1, f1)) (e2 : nmS mxU (y1, mustF true f1) = (n2, y2, f2)) (hb2 : b2 = true ↔ nameOk (n2 : Int)) (e3 : nmS mxU (y2, mustF b2 f2) = (n3, y3, f3)) (hb3 : b3 = true ↔ nameOk (n3 : Int)) (hf : ¬ mustF b3 f3 = 0) :
    Calls Tryd.prog 31 #[.pointer (some ⟨p, 0, none⟩)] w fun er w' => RdOut W p B w.heap.size ⟨3, (n2 : Nat), (n3 : Nat), 0, 0, 0, [], 0, []⟩ y3 (mustF b3 f3) er w' := by
  have HP : Hid (W.heap.size ≤ p ∧ p < w.heap.size) := ⟨hpW, h.lt⟩
  have HE1 : Hid _ := e1
  have HE2 : Hid _ := e2
  have HE3 : Hid _ := e3
  have HQ2 : Hid _ := hb2
  have HQ3 : Hid _ := hb3
  have HR0 : Hid (RS w p B ys f) := h
  have HW0 : Hid (Below W.heap.size W w) := hW
  have HK : Hid (KindIs (3 : Int) kd3 true) := .inr (.inr (.inl ⟨rfl, rfl, rfl⟩))
  clear h hW hpW e1 e2 e3 hb2 hb3
  have hsf := fun (u : World) (a : Addr) (n : Nat) => run_store Tryd.prog u a (.func (.func n) #[] #[]) .plain rfl
  have hsn := fun (u : World) (a : Addr) => run_store Tryd.prog u a .nilFunc .plain rfl
  go_enter Tryd.func31, Tryd.ntmps31
  go_wp2_with fail
  refine Calls.mono (small_t _ (RS.below HR0.out (al (Below.refl _ _) _)) HE1.out) ?_
  rintro er1 w1 ⟨rfl, hr, hg⟩
  obtain ⟨g, hgs⟩ : ∃ g, g = w.heap.size := ⟨_, rfl⟩
  rw [← hgs]
  have HGS : Hid (g = w.heap.size) := hgs
  have HPG : Hid (p < g) := by unfold Hid; rw [hgs]; exact HP.out.2
  have HU1 : Hid (UBx w1 g #[.int .i64 0, .int .u64 0, .int .u64 0, .int .i64 0, .int .i64 0, .int .i64 0, .slice none 0 0, .int .i64 0, .slice none 0 0]) := by unfold Hid; rw [hgs]; exact gr_box hg (by have := HP.out; omega) (heap_alloc_new w _)
  have HR1 : Hid (RS w1 p B y1 f1) := hr
  have HW1 : Hid (Below W.heap.size W w1) := (HW0.out.alloc HW0.out.size _).grown hg (HW0.out.alloc HW0.out.size _).size (fun j hj => by cases hj; exact HP.out.1)
  clear hr hg hgs
  have c0 : w1.cell? ⟨g, 0, none⟩ = some (.int .i64 0) := by rw [cell_of_row _ _ _ _ _ _ HU1.out]; rfl
  have z0 : w1.frozen? ⟨g, 0, none⟩ = false := by simp [World.frozen?, HU1.out]
  obtain ⟨x1, hx1⟩ : ∃ x : World, x = w1.setCell ⟨g, 0, none⟩ (.int .i64 3) := ⟨_, rfl⟩
  have HG1x : Hid (w1.grownBy x1 (some g)) := by unfold Hid; rw [hx1]; exact gset1 _ _ _ _
  have HU1x : Hid (UBx x1 g #[.int .i64 3, .int .u64 0, .int .u64 0, .int .i64 0, .int .i64 0, .int .i64 0, .slice none 0 0, .int .i64 0, .slice none 0 0]) := by unfold Hid UBx; rw [hx1, heap_setCell_same w1 g 0 _ _ _ HU1.out]; rfl
  have HR1x : Hid (RS x1 p B y1 f1) := RS.grown HR1.out HG1x.out (.inr HPG.out)
  have HW1x : Hid (Below W.heap.size W x1) := HW1.out.grown HG1x.out HW1.out.size (fun j hj => by cases hj; have := HP.out; have := HPG.out; omega)
  go_wp2_with fail
  rw [← hx1]
  clear hx1 c0 z0
  refine Calls.mono (kindOf_t _ _ _ HK.out _) ?_
  rintro er1 w2 ⟨rfl, hb⟩
  have HU2 : Hid (UBx w2 g #[.int .i64 3, .int .u64 0, .int .u64 0, .int .i64 0, .int .i64 0, .int .i64 0, .slice none 0 0, .int .i64 0, .slice none 0 0]) := (hb.block g (Array.getElem?_eq_some_iff.1 HU1x.out).1).trans HU1x.out
  have HR2 : Hid (RS w2 p B y1 f1) := RS.below HR1x.out hb
  have HW2 : Hid (Below W.heap.size W w2) := below_next HW1x.out hb
  have HS2 : Hid (g < w2.heap.size) := (Array.getElem?_eq_some_iff.1 HU2.out).1
  clear hb
  go_wp2_with fail
  refine Calls.mono (must_t true _ (RS.below HR2.out (al (Below.refl _ _) _))) ?_
  rintro er1 w3 ⟨rfl, hr, hg⟩
  have HU3 : Hid (UBx w3 g #[.int .i64 3, .int .u64 0, .int .u64 0, .int .i64 0, .int .i64 0, .int .i64 0, .slice none 0 0, .int .i64 0, .slice none 0 0]) := gr_box hg (by have := HPG.out; omega) (((al (Below.refl _ _) _).block g HS2.out).trans HU2.out)
  have HK3 : Hid (w3.heap[w2.heap.size]? = some (.cells #[.int .i64 3, .func (.func 64) #[] #[], .func (.func 65) #[] #[], .func (.func 66) #[] #[]] 56 (0, 0))) := gr_box hg (by have := HPG.out; have := HS2.out; omega) (heap_alloc_new w2 _)
  have HR3 : Hid (RS w3 p B y1 (mustF true f1)) := hr
  have HW3 : Hid (Below W.heap.size W w3) := (HW2.out.alloc HW2.out.size _).grown hg (HW2.out.alloc HW2.out.size _).size (fun j hj => by cases hj; exact HP.out.1)
  clear hr hg
  obtain ⟨κ, hκ⟩ : ∃ κ, κ = w2.heap.size := ⟨_, rfl⟩
  rw [← hκ] at HK3 HS2 ⊢
  clear hκ
  go_wp2_with fail
  refine Calls.mono (number_t (m := mxU) _ HR3.out HE2.out) ?_
  rintro er1 w4 ⟨rfl, hr, hg⟩
  have HU4 : Hid (UBx w4 g #[.int .i64 3, .int .u64 0, .int .u64 0, .int .i64 0, .int .i64 0, .int .i64 0, .slice none 0 0, .int .i64 0, .slice none 0 0]) := gr_box hg (by have := HPG.out; omega) HU3.out
  have HK4 : Hid (w4.heap[κ]? = some (.cells #[.int .i64 3, .func (.func 64) #[] #[], .func (.func 65) #[] #[], .func (.func 66) #[] #[]] 56 (0, 0))) := gr_box hg (by have := HPG.out; have := HS2.out; omega) HK3.out
  have HR4 : Hid (RS w4 p B y2 f2) := hr
  have HW4 : Hid (Below W.heap.size W w4) := HW3.out.grown hg HW3.out.size (fun j hj => by cases hj; exact HP.out.1)
  clear hr hg
  have c1 : w4.cell? ⟨g, 1, none⟩ = some (.int .u64 0) := by rw [cell_of_row _ _ _ _ _ _ HU4.out]; rfl
  have z1 : w4.frozen? ⟨g, 1, none⟩ = false := by simp [World.frozen?, HU4.out]
  obtain ⟨x4, hx4⟩ : ∃ x : World, x = w4.setCell ⟨g, 1, none⟩ (.int .u64 (n2 : Nat)) := ⟨_, rfl⟩
  have HG4x : Hid (w4.grownBy x4 (some g)) := by unfold Hid; rw [hx4]; exact gset1 _ _ _ _
  have HU4x : Hid (UBx x4 g #[.int .i64 3, .int .u64 (n2 : Nat), .int .u64 0, .int .i64 0, .int .i64 0, .int .i64 0, .slice none 0 0, .int .i64 0, .slice none 0 0]) := by unfold Hid UBx; rw [hx4, heap_setCell_same w4 g 1 _ _ _ HU4.out]; rfl
  have HK4x : Hid (x4.heap[κ]? = some (.cells #[.int .i64 3, .func (.func 64) #[] #[], .func (.func 65) #[] #[], .func (.func 66) #[] #[]] 56 (0, 0))) := gr_box HG4x.out (by have := HS2.out; omega) HK4.out
  have HR4x : Hid (RS x4 p B y2 f2) := RS.grown HR4.out HG4x.out (.inr HPG.out)
  have HW4x : Hid (Below W.heap.size W x4) := HW4.out.grown HG4x.out HW4.out.size (fun j hj => by cases hj; have := HP.out; have := HPG.out; omega)
  go_wp2_with (go_at_call 37; refine Calls.mono (goodName_b _ b2 HQ2.out _) ?_; rintro er1 wq ⟨rfl, hq⟩; have hq := hq.symm; subst hq)
  rw [← hx4]
  clear hx4 c1 z1
  refine Calls.mono (must_t b2 _ HR4x.out) ?_
  rintro er1 w5 ⟨rfl, hr, hg⟩
  have HU5 : Hid (UBx w5 g #[.int .i64 3, .int .u64 (n2 : Nat), .int .u64 0, .int .i64 0, .int .i64 0, .int .i64 0, .slice none 0 0, .int .i64 0, .slice none 0 0]) := gr_box hg (by have := HPG.out; omega) HU4x.out
  have HK5 : Hid (w5.heap[κ]? = some (.cells #[.int .i64 3, .func (.func 64) #[] #[], .func (.func 65) #[] #[], .func (.func 66) #[] #[]] 56 (0, 0))) := gr_box hg (by have := HPG.out; have := HS2.out; omega) HK4x.out
  have HR5 : Hid (RS w5 p B y2 (mustF b2 f2)) := hr
  have HW5 : Hid (Below W.heap.size W w5) := HW4x.out.grown hg HW4x.out.size (fun j hj => by cases hj; exact HP.out.1)
  clear hr hg
  go_wp2_with fail
  refine Calls.mono (number_t (m := mxU) _ HR5.out HE3.out) ?_
  rintro er1 w6 ⟨rfl, hr, hg⟩
  have HU6 : Hid (UBx w6 g #[.int .i64 3, .int .u64 (n2 : Nat), .int .u64 0, .int .i64 0, .int .i64 0, .int .i64 0, .slice none 0 0, .int .i64 0, .slice none 0 0]) := gr_box hg (by have := HPG.out; omega) HU5.out
  have HK6 : Hid (w6.heap[κ]? = some (.cells #[.int .i64 3, .func (.func 64) #[] #[], .func (.func 65) #[] #[], .func (.func 66) #[] #[]] 56 (0, 0))) := gr_box hg (by have := HPG.out; have := HS2.out; omega) HK5.out
  have HR6 : Hid (RS w6 p B y3 f3) := hr
  have HW6 : Hid (Below W.heap.size W w6) := HW5.out.grown hg HW5.out.size (fun j hj => by cases hj; exact HP.out.1)
  clear hr hg
  have c2 : w6.cell? ⟨g, 2, none⟩ = some (.int .u64 0) := by rw [cell_of_row _ _ _ _ _ _ HU6.out]; rfl
  have z2 : w6.frozen? ⟨g, 2, none⟩ = false := by simp [World.frozen?, HU6.out]
  obtain ⟨x6, hx6⟩ : ∃ x : World, x = w6.setCell ⟨g, 2, none⟩ (.int .u64 (n3 : Nat)) := ⟨_, rfl⟩
  have HG6x : Hid (w6.grownBy x6 (some g)) := by unfold Hid; rw [hx6]; exact gset1 _ _ _ _
  have HU6x : Hid (UBx x6 g #[.int .i64 3, .int .u64 (n2 : Nat), .int .u64 (n3 : Nat), .int .i64 0, .int .i64 0, .int .i64 0, .slice none 0 0, .int .i64 0, .slice none 0 0]) := by unfold Hid UBx; rw [hx6, heap_setCell_same w6 g 2 _ _ _ HU6.out]; rfl
  have HK6x : Hid (x6.heap[κ]? = some (.cells #[.int .i64 3, .func (.func 64) #[] #[], .func (.func 65) #[] #[], .func (.func 66) #[] #[]] 56 (0, 0))) := gr_box HG6x.out (by have := HS2.out; omega) HK6.out
  have HR6x : Hid (RS x6 p B y3 f3) := RS.grown HR6.out HG6x.out (.inr HPG.out)
  have HW6x : Hid (Below W.heap.size W x6) := HW6.out.grown HG6x.out HW6.out.size (fun j hj => by cases hj; have := HP.out; have := HPG.out; omega)
  go_wp2_with (go_at_call 37; refine Calls.mono (goodName_b _ b3 HQ3.out _) ?_; rintro er1 wq ⟨rfl, hq⟩; have hq := hq.symm; subst hq)
  rw [← hx6]
  clear hx6 c2 z2
  refine Calls.mono (must_t b3 _ HR6x.out) ?_
  rintro er1 w7 ⟨rfl, hr, hg⟩
  have HU7 : Hid (UBx w7 g #[.int .i64 3, .int .u64 (n2 : Nat), .int .u64 (n3 : Nat), .int .i64 0, .int .i64 0, .int .i64 0, .slice none 0 0, .int .i64 0, .slice none 0 0]) := gr_box hg (by have := HPG.out; omega) HU6x.out
  have HK7 : Hid (w7.heap[κ]? = some (.cells #[.int .i64 3, .func (.func 64) #[] #[], .func (.func 65) #[] #[], .func (.func 66) #[] #[]] 56 (0, 0))) := gr_box hg (by have := HPG.out; have := HS2.out; omega) HK6x.out
  have HR7 : Hid (RS w7 p B y3 (mustF b3 f3)) := hr
  have HW7 : Hid (Below W.heap.size W w7) := HW6x.out.grown hg HW6x.out.size (fun j hj => by cases hj; exact HP.out.1)
  clear hr hg
  go_wp2_with fail
  refine Calls.mono (err_t _ HR7.out) ?_
  rintro er1 u ⟨rfl, hu⟩
  rw [hu]
  clear hu u
  have hfb : (mustF b3 f3 == 0) = false := by simpa using hf
  obtain ⟨F, hF⟩ : ∃ F, F = mustF b3 f3 := ⟨_, rfl⟩
  rw [← hF] at hf hfb HR7 ⊢
  have HFF : Hid (F = mustF b3 f3) := hF
  clear hF
  go_wp2_with (first
    | (refine wpList_load_g (by rfl) 38 _ rfl g 0 (by rfl) [.int .i64 3, .int .u64 (n2 : Nat), .int .u64 (n3 : Nat), .int .i64 0, .int .i64 0, .int .i64 0, .slice none 0 0, .int .i64 0, .slice none 0 0] _ (box_range HU7.out) Tryd.underlying38 rfl info_un ?_)
    | (refine wpList_store_mid rfl 38 _ _ rfl g 0 #[.int .i64 3, .int .u64 (n2 : Nat), .int .u64 (n3 : Nat), .int .i64 0, .int .i64 0, .int .i64 0, .slice none 0 0, .int .i64 0, .slice none 0 0] rfl rfl (box_there HU7.out rfl) (by kernel_rfl) (by simp [Value.oneCell']) ?_))
  (try simp only [Exit.inBlock, Exit.then])
  refine bodyPost_ret (results_cell_row Tryd.results31 _ _ g 38 #[.int .i64 3, .int .u64 (n2 : Nat), .int .u64 (n3 : Nat), .int .i64 0, .int .i64 0, .int .i64 0, .slice none 0 0, .int .i64 0, .slice none 0 0] (0, 0) _ rfl (box_set HU7.out rfl) Tryd.underlying38 rfl (by kernel_rfl)) rfl ?_
  have hfin := setCells_grown g [.int .i64 3, .int .u64 (n2 : Nat), .int .u64 (n3 : Nat), .int .i64 0, .int .i64 0, .int .i64 0, .slice none 0 0, .int .i64 0, .slice none 0 0] 0 w7
  rw [← HFF.out, ← HGS.out]
  exact ⟨none, 0, none, 0, rfl, World.ownsRow_nil _ _ _ _, OwnR.nil _ _, RS.grown HR7.out hfin (.inr HPG.out), HW7.out.grown hfin HW7.out.size (fun j hj => by cases hj; have := HP.out; have := HPG.out; omega)⟩
theorem read_1b {p B n1 n2 n3 : Nat} {ys y1 y2 y3 : List UInt8} {f f1 f2 f3 : Int} (b2 b3 : Bool) (W w : World) (h : RS w p B ys f) (hW : Below W.heap.size W w) (hpW : W.heap.size ≤ p)
    (e1 : nmS mxU (ys, f) = (1, y1, f1)) (e2 : nmS mxU (y1, mustF true f1) = (n2, y2, f2)) (hb2 : b2 = true ↔ nameOk (n2 : Int)) (e3 : nmS mxU (y2, mustF b2 f2) = (n3, y3, f3)) (hb3 : b3 = true ↔ nameOk (n3 : Int)) (hf : mustF b3 f3 = 0) {m1 m2 m3 : Nat} {v1 v2 v3 v4 d : List UInt8} {t1 t2 t3 t4 : Int} (q1 q2 q3 q4 : Bool) (E1 : nmS mxU (y3, 0) = (m1, v1, t1)) (hq1 : q1 = true ↔ ((m1 : Int) = 1 ∨ (m1 : Int) = 2)) (E2 : nmS mxU (v1, mustF q1 t1) = (m2, v2, t2)) (hq2 : q2 = true ↔ (0 ≤ (m2 : Int) ∧ (m2 : Int) < 64)) (E3 : nmS mxU (v2, mustF q2 t2) = (m3, v3, t3)) (hq3 : q3 = true ↔ ((m2 : Int) < (m3 : Int) ∧ (m3 : Int) ≤ 64)) (E4 : byS 1024 (v3, mustF q3 t3) = (d, v4, t4)) (hq4 : q4 = true ↔ (1 ≤ d.length ∧ d.length ≤ 1024)) :
    Calls Tryd.prog 31 #[.pointer (some ⟨p, 0, none⟩)] w fun er w' => RdOut W p B w.heap.size ⟨1, (n2 : Nat), (n3 : Nat), (m1 : Nat), (m2 : Nat), (m3 : Nat), d, 0, []⟩ v4 (mustF q4 t4) er w' := by
  have HP : Hid (W.heap.size ≤ p ∧ p < w.heap.size) := ⟨hpW, h.lt⟩
  have HE1 : Hid _ := e1
  have HE2 : Hid _ := e2
  have HE3 : Hid _ := e3
  have HQ2 : Hid _ := hb2
  have HQ3 : Hid _ := hb3
  have HR0 : Hid (RS w p B ys f) := h
  have HW0 : Hid (Below W.heap.size W w) := hW
  have HK : Hid (KindIs (1 : Int) kd1 true) := .inl ⟨rfl, rfl, rfl⟩
  have HD1 : Hid _ := E1
  have HD2 : Hid _ := E2
  have HD3 : Hid _ := E3
  have HD4 : Hid _ := E4
  have HT1 : Hid _ := hq1
  have HT2 : Hid _ := hq2
  have HT3 : Hid _ := hq3
  have HT4 : Hid _ := hq4
  clear E1 E2 E3 E4 hq1 hq2 hq3 hq4
  clear h hW hpW e1 e2 e3 hb2 hb3
  have hsf := fun (u : World) (a : Addr) (n : Nat) => run_store Tryd.prog u a (.func (.func n) #[] #[]) .plain rfl
  have hsn := fun (u : World) (a : Addr) => run_store Tryd.prog u a .nilFunc .plain rfl
  go_enter Tryd.func31, Tryd.ntmps31
  go_wp2_with fail
  refine Calls.mono (small_t _ (RS.below HR0.out (al (Below.refl _ _) _)) HE1.out) ?_
  rintro er1 w1 ⟨rfl, hr, hg⟩
  obtain ⟨g, hgs⟩ : ∃ g, g = w.heap.size := ⟨_, rfl⟩
  rw [← hgs]
  have HGS : Hid (g = w.heap.size) := hgs
  have HPG : Hid (p < g) := by unfold Hid; rw [hgs]; exact HP.out.2
  have HU1 : Hid (UBx w1 g #[.int .i64 0, .int .u64 0, .int .u64 0, .int .i64 0, .int .i64 0, .int .i64 0, .slice none 0 0, .int .i64 0, .slice none 0 0]) := by unfold Hid; rw [hgs]; exact gr_box hg (by have := HP.out; omega) (heap_alloc_new w _)
  have HR1 : Hid (RS w1 p B y1 f1) := hr
  have HW1 : Hid (Below W.heap.size W w1) := (HW0.out.alloc HW0.out.size _).grown hg (HW0.out.alloc HW0.out.size _).size (fun j hj => by cases hj; exact HP.out.1)
  clear hr hg hgs
  have c0 : w1.cell? ⟨g, 0, none⟩ = some (.int .i64 0) := by rw [cell_of_row _ _ _ _ _ _ HU1.out]; rfl
  have z0 : w1.frozen? ⟨g, 0, none⟩ = false := by simp [World.frozen?, HU1.out]
  obtain ⟨x1, hx1⟩ : ∃ x : World, x = w1.setCell ⟨g, 0, none⟩ (.int .i64 1) := ⟨_, rfl⟩
  have HG1x : Hid (w1.grownBy x1 (some g)) := by unfold Hid; rw [hx1]; exact gset1 _ _ _ _
  have HU1x : Hid (UBx x1 g #[.int .i64 1, .int .u64 0, .int .u64 0, .int .i64 0, .int .i64 0, .int .i64 0, .slice none 0 0, .int .i64 0, .slice none 0 0]) := by unfold Hid UBx; rw [hx1, heap_setCell_same w1 g 0 _ _ _ HU1.out]; rfl
  have HR1x : Hid (RS x1 p B y1 f1) := RS.grown HR1.out HG1x.out (.inr HPG.out)
  have HW1x : Hid (Below W.heap.size W x1) := HW1.out.grown HG1x.out HW1.out.size (fun j hj => by cases hj; have := HP.out; have := HPG.out; omega)
  go_wp2_with fail
  rw [← hx1]
  clear hx1 c0 z0
  refine Calls.mono (kindOf_t _ _ _ HK.out _) ?_
  rintro er1 w2 ⟨rfl, hb⟩
  have HU2 : Hid (UBx w2 g #[.int .i64 1, .int .u64 0, .int .u64 0, .int .i64 0, .int .i64 0, .int .i64 0, .slice none 0 0, .int .i64 0, .slice none 0 0]) := (hb.block g (Array.getElem?_eq_some_iff.1 HU1x.out).1).trans HU1x.out
  have HR2 : Hid (RS w2 p B y1 f1) := RS.below HR1x.out hb
  have HW2 : Hid (Below W.heap.size W w2) := below_next HW1x.out hb
  have HS2 : Hid (g < w2.heap.size) := (Array.getElem?_eq_some_iff.1 HU2.out).1
  clear hb
  go_wp2_with fail
  refine Calls.mono (must_t true _ (RS.below HR2.out (al (Below.refl _ _) _))) ?_
  rintro er1 w3 ⟨rfl, hr, hg⟩
  have HU3 : Hid (UBx w3 g #[.int .i64 1, .int .u64 0, .int .u64 0, .int .i64 0, .int .i64 0, .int .i64 0, .slice none 0 0, .int .i64 0, .slice none 0 0]) := gr_box hg (by have := HPG.out; omega) (((al (Below.refl _ _) _).block g HS2.out).trans HU2.out)
  have HK3 : Hid (w3.heap[w2.heap.size]? = some (.cells #[.int .i64 1, .func (.func 58) #[] #[], .func (.func 59) #[] #[], .func (.func 60) #[] #[]] 56 (0, 0))) := gr_box hg (by have := HPG.out; have := HS2.out; omega) (heap_alloc_new w2 _)
  have HR3 : Hid (RS w3 p B y1 (mustF true f1)) := hr
  have HW3 : Hid (Below W.heap.size W w3) := (HW2.out.alloc HW2.out.size _).grown hg (HW2.out.alloc HW2.out.size _).size (fun j hj => by cases hj; exact HP.out.1)
  clear hr hg
  obtain ⟨κ, hκ⟩ : ∃ κ, κ = w2.heap.size := ⟨_, rfl⟩
  rw [← hκ] at HK3 HS2 ⊢
  clear hκ
  go_wp2_with fail
  refine Calls.mono (number_t (m := mxU) _ HR3.out HE2.out) ?_
  rintro er1 w4 ⟨rfl, hr, hg⟩
  have HU4 : Hid (UBx w4 g #[.int .i64 1, .int .u64 0, .int .u64 0, .int .i64 0, .int .i64 0, .int .i64 0, .slice none 0 0, .int .i64 0, .slice none 0 0]) := gr_box hg (by have := HPG.out; omega) HU3.out
  have HK4 : Hid (w4.heap[κ]? = some (.cells #[.int .i64 1, .func (.func 58) #[] #[], .func (.func 59) #[] #[], .func (.func 60) #[] #[]] 56 (0, 0))) := gr_box hg (by have := HPG.out; have := HS2.out; omega) HK3.out
  have HR4 : Hid (RS w4 p B y2 f2) := hr
  have HW4 : Hid (Below W.heap.size W w4) := HW3.out.grown hg HW3.out.size (fun j hj => by cases hj; exact HP.out.1)
  clear hr hg
  have c1 : w4.cell? ⟨g, 1, none⟩ = some (.int .u64 0) := by rw [cell_of_row _ _ _ _ _ _ HU4.out]; rfl
  have z1 : w4.frozen? ⟨g, 1, none⟩ = false := by simp [World.frozen?, HU4.out]
  obtain ⟨x4, hx4⟩ : ∃ x : World, x = w4.setCell ⟨g, 1, none⟩ (.int .u64 (n2 : Nat)) := ⟨_, rfl⟩
  have HG4x : Hid (w4.grownBy x4 (some g)) := by unfold Hid; rw [hx4]; exact gset1 _ _ _ _
  have HU4x : Hid (UBx x4 g #[.int .i64 1, .int .u64 (n2 : Nat), .int .u64 0, .int .i64 0, .int .i64 0, .int .i64 0, .slice none 0 0, .int .i64 0, .slice none 0 0]) := by unfold Hid UBx; rw [hx4, heap_setCell_same w4 g 1 _ _ _ HU4.out]; rfl
  have HK4x : Hid (x4.heap[κ]? = some (.cells #[.int .i64 1, .func (.func 58) #[] #[], .func (.func 59) #[] #[], .func (.func 60) #[] #[]] 56 (0, 0))) := gr_box HG4x.out (by have := HS2.out; omega) HK4.out
  have HR4x : Hid (RS x4 p B y2 f2) := RS.grown HR4.out HG4x.out (.inr HPG.out)
  have HW4x : Hid (Below W.heap.size W x4) := HW4.out.grown HG4x.out HW4.out.size (fun j hj => by cases hj; have := HP.out; have := HPG.out; omega)
  go_wp2_with (go_at_call 37; refine Calls.mono (goodName_b _ b2 HQ2.out _) ?_; rintro er1 wq ⟨rfl, hq⟩; have hq := hq.symm; subst hq)
  rw [← hx4]
  clear hx4 c1 z1
  refine Calls.mono (must_t b2 _ HR4x.out) ?_
  rintro er1 w5 ⟨rfl, hr, hg⟩
  have HU5 : Hid (UBx w5 g #[.int .i64 1, .int .u64 (n2 : Nat), .int .u64 0, .int .i64 0, .int .i64 0, .int .i64 0, .slice none 0 0, .int .i64 0, .slice none 0 0]) := gr_box hg (by have := HPG.out; omega) HU4x.out
  have HK5 : Hid (w5.heap[κ]? = some (.cells #[.int .i64 1, .func (.func 58) #[] #[], .func (.func 59) #[] #[], .func (.func 60) #[] #[]] 56 (0, 0))) := gr_box hg (by have := HPG.out; have := HS2.out; omega) HK4x.out
  have HR5 : Hid (RS w5 p B y2 (mustF b2 f2)) := hr
  have HW5 : Hid (Below W.heap.size W w5) := HW4x.out.grown hg HW4x.out.size (fun j hj => by cases hj; exact HP.out.1)
  clear hr hg
  go_wp2_with fail
  refine Calls.mono (number_t (m := mxU) _ HR5.out HE3.out) ?_
  rintro er1 w6 ⟨rfl, hr, hg⟩
  have HU6 : Hid (UBx w6 g #[.int .i64 1, .int .u64 (n2 : Nat), .int .u64 0, .int .i64 0, .int .i64 0, .int .i64 0, .slice none 0 0, .int .i64 0, .slice none 0 0]) := gr_box hg (by have := HPG.out; omega) HU5.out
  have HK6 : Hid (w6.heap[κ]? = some (.cells #[.int .i64 1, .func (.func 58) #[] #[], .func (.func 59) #[] #[], .func (.func 60) #[] #[]] 56 (0, 0))) := gr_box hg (by have := HPG.out; have := HS2.out; omega) HK5.out
  have HR6 : Hid (RS w6 p B y3 f3) := hr
  have HW6 : Hid (Below W.heap.size W w6) := HW5.out.grown hg HW5.out.size (fun j hj => by cases hj; exact HP.out.1)
  clear hr hg
  have c2 : w6.cell? ⟨g, 2, none⟩ = some (.int .u64 0) := by rw [cell_of_row _ _ _ _ _ _ HU6.out]; rfl
  have z2 : w6.frozen? ⟨g, 2, none⟩ = false := by simp [World.frozen?, HU6.out]
  obtain ⟨x6, hx6⟩ : ∃ x : World, x = w6.setCell ⟨g, 2, none⟩ (.int .u64 (n3 : Nat)) := ⟨_, rfl⟩
  have HG6x : Hid (w6.grownBy x6 (some g)) := by unfold Hid; rw [hx6]; exact gset1 _ _ _ _
  have HU6x : Hid (UBx x6 g #[.int .i64 1, .int .u64 (n2 : Nat), .int .u64 (n3 : Nat), .int .i64 0, .int .i64 0, .int .i64 0, .slice none 0 0, .int .i64 0, .slice none 0 0]) := by unfold Hid UBx; rw [hx6, heap_setCell_same w6 g 2 _ _ _ HU6.out]; rfl
  have HK6x : Hid (x6.heap[κ]? = some (.cells #[.int .i64 1, .func (.func 58) #[] #[], .func (.func 59) #[] #[], .func (.func 60) #[] #[]] 56 (0, 0))) := gr_box HG6x.out (by have := HS2.out; omega) HK6.out
  have HR6x : Hid (RS x6 p B y3 f3) := RS.grown HR6.out HG6x.out (.inr HPG.out)
  have HW6x : Hid (Below W.heap.size W x6) := HW6.out.grown HG6x.out HW6.out.size (fun j hj => by cases hj; have := HP.out; have := HPG.out; omega)
  go_wp2_with (go_at_call 37; refine Calls.mono (goodName_b _ b3 HQ3.out _) ?_; rintro er1 wq ⟨rfl, hq⟩; have hq := hq.symm; subst hq)
  rw [← hx6]
  clear hx6 c2 z2
  refine Calls.mono (must_t b3 _ HR6x.out) ?_
  rintro er1 w7 ⟨rfl, hr, hg⟩
  have HU7 : Hid (UBx w7 g #[.int .i64 1, .int .u64 (n2 : Nat), .int .u64 (n3 : Nat), .int .i64 0, .int .i64 0, .int .i64 0, .slice none 0 0, .int .i64 0, .slice none 0 0]) := gr_box hg (by have := HPG.out; omega) HU6x.out
  have HK7 : Hid (w7.heap[κ]? = some (.cells #[.int .i64 1, .func (.func 58) #[] #[], .func (.func 59) #[] #[], .func (.func 60) #[] #[]] 56 (0, 0))) := gr_box hg (by have := HPG.out; have := HS2.out; omega) HK6x.out
  have HR7 : Hid (RS w7 p B y3 (mustF b3 f3)) := hr
  have HW7 : Hid (Below W.heap.size W w7) := HW6x.out.grown hg HW6x.out.size (fun j hj => by cases hj; exact HP.out.1)
  clear hr hg
  go_wp2_with fail
  refine Calls.mono (err_t _ HR7.out) ?_
  rintro er1 u ⟨rfl, hu⟩
  rw [hu]
  clear hu u
  have hfb : (mustF b3 f3 == 0) = true := by simpa using hf
  obtain ⟨F, hF⟩ : ∃ F, F = mustF b3 f3 := ⟨_, rfl⟩
  rw [← hF] at hf hfb HR7 ⊢
  clear hF
  subst hf
  have hkf : w7.cell? ⟨κ, 3, none⟩ = some (.func (.func 60) #[] #[]) := by rw [cell_of_row _ _ _ _ _ _ HK7.out]; rfl
  go_wp2_with fail
  clear hkf
  refine Calls.mono (readData_t q1 q2 q3 q4 g 1 (n2 : Nat) (n3 : Nat) _ _ _ _ _ _ W w7 HR7.out HW7.out HP.out.1 HPG.out HU7.out HD1.out HT1.out HD2.out HT2.out HD3.out HT3.out HD4.out HT4.out) ?_
  rintro er1 w8 ⟨a8, c8, rfl, hr8, hu8, ho8, hw8⟩
  obtain ⟨D, hD⟩ : ∃ D, D = d.length := ⟨_, rfl⟩
  have HU8 : Hid (UBx w8 g #[.int .i64 1, .int .u64 (n2 : Nat), .int .u64 (n3 : Nat), .int .i64 (m1 : Nat), .int .i64 (m2 : Nat), .int .i64 (m3 : Nat), .slice a8 D c8, .int .i64 0, .slice none 0 0]) := by unfold Hid; rw [hD]; exact hu8
  have HR8 : Hid (RS w8 p B v4 (mustF q4 t4)) := hr8
  have HO8 : Hid (Own w8 (g + 1) (.slice a8 d.length c8) d) := ho8
  have HW8 : Hid (Below W.heap.size W w8) := hw8
  have HDD : Hid (D = d.length) := hD
  clear hr8 hu8 ho8 hw8 hD
  go_wp2_with (first
    | (refine wpList_load_g (by rfl) 38 _ rfl g 0 (by rfl) [.int .i64 1, .int .u64 (n2 : Nat), .int .u64 (n3 : Nat), .int .i64 (m1 : Nat), .int .i64 (m2 : Nat), .int .i64 (m3 : Nat), .slice a8 D c8, .int .i64 0, .slice none 0 0] _ (box_range HU8.out) Tryd.underlying38 rfl info_un ?_)
    | (refine wpList_store_mid rfl 38 _ _ rfl g 0 #[.int .i64 1, .int .u64 (n2 : Nat), .int .u64 (n3 : Nat), .int .i64 (m1 : Nat), .int .i64 (m2 : Nat), .int .i64 (m3 : Nat), .slice a8 D c8, .int .i64 0, .slice none 0 0] rfl rfl (box_there HU8.out rfl) (by kernel_rfl) (by simp [Value.oneCell']) ?_))
  (try simp only [Exit.inBlock, Exit.then])
  refine bodyPost_ret (results_cell_row Tryd.results31 _ _ g 38 #[.int .i64 1, .int .u64 (n2 : Nat), .int .u64 (n3 : Nat), .int .i64 (m1 : Nat), .int .i64 (m2 : Nat), .int .i64 (m3 : Nat), .slice a8 D c8, .int .i64 0, .slice none 0 0] (0, 0) _ rfl (box_set HU8.out rfl) Tryd.underlying38 rfl (by kernel_rfl)) rfl ?_
  have hfin := setCells_grown g [.int .i64 1, .int .u64 (n2 : Nat), .int .u64 (n3 : Nat), .int .i64 (m1 : Nat), .int .i64 (m2 : Nat), .int .i64 (m3 : Nat), .slice a8 D c8, .int .i64 0, .slice none 0 0] 0 w8
  rw [← HGS.out]
  exact ⟨a8, c8, none, 0, by rw [HDD.out]; rfl, own_lo HO8.out hfin (Nat.lt_succ_self _), OwnR.nil _ _, RS.grown HR8.out hfin (.inr HPG.out), HW8.out.grown hfin HW8.out.size (fun j hj => by cases hj; have := HP.out; have := HPG.out; omega)⟩
theorem read_2b {p B n1 n2 n3 : Nat} {ys y1 y2 y3 : List UInt8} {f f1 f2 f3 : Int} (b2 b3 : Bool) (W w : World) (h : RS w p B ys f) (hW : Below W.heap.size W w) (hpW : W.heap.size ≤ p)
    (e1 : nmS mxU (ys, f) = (2, y1, f1)) (e2 : nmS mxU (y1, mustF true f1) = (n2, y2, f2)) (hb2 : b2 = true ↔ nameOk (n2 : Int)) (e3 : nmS mxU (y2, mustF b2 f2) = (n3, y3, f3)) (hb3 : b3 = true ↔ nameOk (n3 : Int)) (hf : mustF b3 f3 = 0) {m1 : Nat} {v1 : List UInt8} {t1 : Int} (q1 : Bool) (E1 : nmS mxU (y3, 0) = (m1, v1, t1)) (hq1 : q1 = true ↔ (0 ≤ (m1 : Int) ∧ (m1 : Int) ≤ 7)) (hm : ¬ m1 = 0) :
    Calls Tryd.prog 31 #[.pointer (some ⟨p, 0, none⟩)] w fun er w' => RdOut W p B w.heap.size ⟨2, (n2 : Nat), (n3 : Nat), 0, 0, 0, [], (m1 : Nat), []⟩ v1 (mustF q1 t1) er w' := by
  have HP : Hid (W.heap.size ≤ p ∧ p < w.heap.size) := ⟨hpW, h.lt⟩
  have HE1 : Hid _ := e1
  have HE2 : Hid _ := e2
  have HE3 : Hid _ := e3
  have HQ2 : Hid _ := hb2
  have HQ3 : Hid _ := hb3
  have HR0 : Hid (RS w p B ys f) := h
  have HW0 : Hid (Below W.heap.size W w) := hW
  have HK : Hid (KindIs (2 : Int) kd2 true) := .inr (.inl ⟨rfl, rfl, rfl⟩)
  have HD1 : Hid _ := E1
  have HT1 : Hid _ := hq1
  have HM : Hid _ := hm
  clear E1 hq1 hm
  clear h hW hpW e1 e2 e3 hb2 hb3
  have hsf := fun (u : World) (a : Addr) (n : Nat) => run_store Tryd.prog u a (.func (.func n) #[] #[]) .plain rfl
  have hsn := fun (u : World) (a : Addr) => run_store Tryd.prog u a .nilFunc .plain rfl
  go_enter Tryd.func31, Tryd.ntmps31
  go_wp2_with fail
  refine Calls.mono (small_t _ (RS.below HR0.out (al (Below.refl _ _) _)) HE1.out) ?_
  rintro er1 w1 ⟨rfl, hr, hg⟩
  obtain ⟨g, hgs⟩ : ∃ g, g = w.heap.size := ⟨_, rfl⟩
  rw [← hgs]
  have HGS : Hid (g = w.heap.size) := hgs
  have HPG : Hid (p < g) := by unfold Hid; rw [hgs]; exact HP.out.2
  have HU1 : Hid (UBx w1 g #[.int .i64 0, .int .u64 0, .int .u64 0, .int .i64 0, .int .i64 0, .int .i64 0, .slice none 0 0, .int .i64 0, .slice none 0 0]) := by unfold Hid; rw [hgs]; exact gr_box hg (by have := HP.out; omega) (heap_alloc_new w _)
  have HR1 : Hid (RS w1 p B y1 f1) := hr
  have HW1 : Hid (Below W.heap.size W w1) := (HW0.out.alloc HW0.out.size _).grown hg (HW0.out.alloc HW0.out.size _).size (fun j hj => by cases hj; exact HP.out.1)
  clear hr hg hgs
  have c0 : w1.cell? ⟨g, 0, none⟩ = some (.int .i64 0) := by rw [cell_of_row _ _ _ _ _ _ HU1.out]; rfl
  have z0 : w1.frozen? ⟨g, 0, none⟩ = false := by simp [World.frozen?, HU1.out]
  obtain ⟨x1, hx1⟩ : ∃ x : World, x = w1.setCell ⟨g, 0, none⟩ (.int .i64 2) := ⟨_, rfl⟩
  have HG1x : Hid (w1.grownBy x1 (some g)) := by unfold Hid; rw [hx1]; exact gset1 _ _ _ _
  have HU1x : Hid (UBx x1 g #[.int .i64 2, .int .u64 0, .int .u64 0, .int .i64 0, .int .i64 0, .int .i64 0, .slice none 0 0, .int .i64 0, .slice none 0 0]) := by unfold Hid UBx; rw [hx1, heap_setCell_same w1 g 0 _ _ _ HU1.out]; rfl
  have HR1x : Hid (RS x1 p B y1 f1) := RS.grown HR1.out HG1x.out (.inr HPG.out)
  have HW1x : Hid (Below W.heap.size W x1) := HW1.out.grown HG1x.out HW1.out.size (fun j hj => by cases hj; have := HP.out; have := HPG.out; omega)
  go_wp2_with fail
  rw [← hx1]
  clear hx1 c0 z0
  refine Calls.mono (kindOf_t _ _ _ HK.out _) ?_
  rintro er1 w2 ⟨rfl, hb⟩
  have HU2 : Hid (UBx w2 g #[.int .i64 2, .int .u64 0, .int .u64 0, .int .i64 0, .int .i64 0, .int .i64 0, .slice none 0 0, .int .i64 0, .slice none 0 0]) := (hb.block g (Array.getElem?_eq_some_iff.1 HU1x.out).1).trans HU1x.out
  have HR2 : Hid (RS w2 p B y1 f1) := RS.below HR1x.out hb
  have HW2 : Hid (Below W.heap.size W w2) := below_next HW1x.out hb
  have HS2 : Hid (g < w2.heap.size) := (Array.getElem?_eq_some_iff.1 HU2.out).1
  clear hb
  go_wp2_with fail
  refine Calls.mono (must_t true _ (RS.below HR2.out (al (Below.refl _ _) _))) ?_
  rintro er1 w3 ⟨rfl, hr, hg⟩
  have HU3 : Hid (UBx w3 g #[.int .i64 2, .int .u64 0, .int .u64 0, .int .i64 0, .int .i64 0, .int .i64 0, .slice none 0 0, .int .i64 0, .slice none 0 0]) := gr_box hg (by have := HPG.out; omega) (((al (Below.refl _ _) _).block g HS2.out).trans HU2.out)
  have HK3 : Hid (w3.heap[w2.heap.size]? = some (.cells #[.int .i64 2, .func (.func 61) #[] #[], .func (.func 62) #[] #[], .func (.func 63) #[] #[]] 56 (0, 0))) := gr_box hg (by have := HPG.out; have := HS2.out; omega) (heap_alloc_new w2 _)
  have HR3 : Hid (RS w3 p B y1 (mustF true f1)) := hr
  have HW3 : Hid (Below W.heap.size W w3) := (HW2.out.alloc HW2.out.size _).grown hg (HW2.out.alloc HW2.out.size _).size (fun j hj => by cases hj; exact HP.out.1)
  clear hr hg
  obtain ⟨κ, hκ⟩ : ∃ κ, κ = w2.heap.size := ⟨_, rfl⟩
  rw [← hκ] at HK3 HS2 ⊢
  clear hκ
  go_wp2_with fail
  refine Calls.mono (number_t (m := mxU) _ HR3.out HE2.out) ?_
  rintro er1 w4 ⟨rfl, hr, hg⟩
  have HU4 : Hid (UBx w4 g #[.int .i64 2, .int .u64 0, .int .u64 0, .int .i64 0, .int .i64 0, .int .i64 0, .slice none 0 0, .int .i64 0, .slice none 0 0]) := gr_box hg (by have := HPG.out; omega) HU3.out
  have HK4 : Hid (w4.heap[κ]? = some (.cells #[.int .i64 2, .func (.func 61) #[] #[], .func (.func 62) #[] #[], .func (.func 63) #[] #[]] 56 (0, 0))) := gr_box hg (by have := HPG.out; have := HS2.out; omega) HK3.out
  have HR4 : Hid (RS w4 p B y2 f2) := hr
  have HW4 : Hid (Below W.heap.size W w4) := HW3.out.grown hg HW3.out.size (fun j hj => by cases hj; exact HP.out.1)
  clear hr hg
  have c1 : w4.cell? ⟨g, 1, none⟩ = some (.int .u64 0) := by rw [cell_of_row _ _ _ _ _ _ HU4.out]; rfl
  have z1 : w4.frozen? ⟨g, 1, none⟩ = false := by simp [World.frozen?, HU4.out]
  obtain ⟨x4, hx4⟩ : ∃ x : World, x = w4.setCell ⟨g, 1, none⟩ (.int .u64 (n2 : Nat)) := ⟨_, rfl⟩
  have HG4x : Hid (w4.grownBy x4 (some g)) := by unfold Hid; rw [hx4]; exact gset1 _ _ _ _
  have HU4x : Hid (UBx x4 g #[.int .i64 2, .int .u64 (n2 : Nat), .int .u64 0, .int .i64 0, .int .i64 0, .int .i64 0, .slice none 0 0, .int .i64 0, .slice none 0 0]) := by unfold Hid UBx; rw [hx4, heap_setCell_same w4 g 1 _ _ _ HU4.out]; rfl
  have HK4x : Hid (x4.heap[κ]? = some (.cells #[.int .i64 2, .func (.func 61) #[] #[], .func (.func 62) #[] #[], .func (.func 63) #[] #[]] 56 (0, 0))) := gr_box HG4x.out (by have := HS2.out; omega) HK4.out
  have HR4x : Hid (RS x4 p B y2 f2) := RS.grown HR4.out HG4x.out (.inr HPG.out)
  have HW4x : Hid (Below W.heap.size W x4) := HW4.out.grown HG4x.out HW4.out.size (fun j hj => by cases hj; have := HP.out; have := HPG.out; omega)
  go_wp2_with (go_at_call 37; refine Calls.mono (goodName_b _ b2 HQ2.out _) ?_; rintro er1 wq ⟨rfl, hq⟩; have hq := hq.symm; subst hq)
  rw [← hx4]
  clear hx4 c1 z1
  refine Calls.mono (must_t b2 _ HR4x.out) ?_
  rintro er1 w5 ⟨rfl, hr, hg⟩
  have HU5 : Hid (UBx w5 g #[.int .i64 2, .int .u64 (n2 : Nat), .int .u64 0, .int .i64 0, .int .i64 0, .int .i64 0, .slice none 0 0, .int .i64 0, .slice none 0 0]) := gr_box hg (by have := HPG.out; omega) HU4x.out
  have HK5 : Hid (w5.heap[κ]? = some (.cells #[.int .i64 2, .func (.func 61) #[] #[], .func (.func 62) #[] #[], .func (.func 63) #[] #[]] 56 (0, 0))) := gr_box hg (by have := HPG.out; have := HS2.out; omega) HK4x.out
  have HR5 : Hid (RS w5 p B y2 (mustF b2 f2)) := hr
  have HW5 : Hid (Below W.heap.size W w5) := HW4x.out.grown hg HW4x.out.size (fun j hj => by cases hj; exact HP.out.1)
  clear hr hg
  go_wp2_with fail
  refine Calls.mono (number_t (m := mxU) _ HR5.out HE3.out) ?_
  rintro er1 w6 ⟨rfl, hr, hg⟩
  have HU6 : Hid (UBx w6 g #[.int .i64 2, .int .u64 (n2 : Nat), .int .u64 0, .int .i64 0, .int .i64 0, .int .i64 0, .slice none 0 0, .int .i64 0, .slice none 0 0]) := gr_box hg (by have := HPG.out; omega) HU5.out
  have HK6 : Hid (w6.heap[κ]? = some (.cells #[.int .i64 2, .func (.func 61) #[] #[], .func (.func 62) #[] #[], .func (.func 63) #[] #[]] 56 (0, 0))) := gr_box hg (by have := HPG.out; have := HS2.out; omega) HK5.out
  have HR6 : Hid (RS w6 p B y3 f3) := hr
  have HW6 : Hid (Below W.heap.size W w6) := HW5.out.grown hg HW5.out.size (fun j hj => by cases hj; exact HP.out.1)
  clear hr hg
  have c2 : w6.cell? ⟨g, 2, none⟩ = some (.int .u64 0) := by rw [cell_of_row _ _ _ _ _ _ HU6.out]; rfl
  have z2 : w6.frozen? ⟨g, 2, none⟩ = false := by simp [World.frozen?, HU6.out]
  obtain ⟨x6, hx6⟩ : ∃ x : World, x = w6.setCell ⟨g, 2, none⟩ (.int .u64 (n3 : Nat)) := ⟨_, rfl⟩
  have HG6x : Hid (w6.grownBy x6 (some g)) := by unfold Hid; rw [hx6]; exact gset1 _ _ _ _
  have HU6x : Hid (UBx x6 g #[.int .i64 2, .int .u64 (n2 : Nat), .int .u64 (n3 : Nat), .int .i64 0, .int .i64 0, .int .i64 0, .slice none 0 0, .int .i64 0, .slice none 0 0]) := by unfold Hid UBx; rw [hx6, heap_setCell_same w6 g 2 _ _ _ HU6.out]; rfl
  have HK6x : Hid (x6.heap[κ]? = some (.cells #[.int .i64 2, .func (.func 61) #[] #[], .func (.func 62) #[] #[], .func (.func 63) #[] #[]] 56 (0, 0))) := gr_box HG6x.out (by have := HS2.out; omega) HK6.out
  have HR6x : Hid (RS x6 p B y3 f3) := RS.grown HR6.out HG6x.out (.inr HPG.out)
  have HW6x : Hid (Below W.heap.size W x6) := HW6.out.grown HG6x.out HW6.out.size (fun j hj => by cases hj; have := HP.out; have := HPG.out; omega)
  go_wp2_with (go_at_call 37; refine Calls.mono (goodName_b _ b3 HQ3.out _) ?_; rintro er1 wq ⟨rfl, hq⟩; have hq := hq.symm; subst hq)
  rw [← hx6]
  clear hx6 c2 z2
  refine Calls.mono (must_t b3 _ HR6x.out) ?_
  rintro er1 w7 ⟨rfl, hr, hg⟩
  have HU7 : Hid (UBx w7 g #[.int .i64 2, .int .u64 (n2 : Nat), .int .u64 (n3 : Nat), .int .i64 0, .int .i64 0, .int .i64 0, .slice none 0 0, .int .i64 0, .slice none 0 0]) := gr_box hg (by have := HPG.out; omega) HU6x.out
  have HK7 : Hid (w7.heap[κ]? = some (.cells #[.int .i64 2, .func (.func 61) #[] #[], .func (.func 62) #[] #[], .func (.func 63) #[] #[]] 56 (0, 0))) := gr_box hg (by have := HPG.out; have := HS2.out; omega) HK6x.out
  have HR7 : Hid (RS w7 p B y3 (mustF b3 f3)) := hr
  have HW7 : Hid (Below W.heap.size W w7) := HW6x.out.grown hg HW6x.out.size (fun j hj => by cases hj; exact HP.out.1)
  clear hr hg
  go_wp2_with fail
  refine Calls.mono (err_t _ HR7.out) ?_
  rintro er1 u ⟨rfl, hu⟩
  rw [hu]
  clear hu u
  have hfb : (mustF b3 f3 == 0) = true := by simpa using hf
  obtain ⟨F, hF⟩ : ∃ F, F = mustF b3 f3 := ⟨_, rfl⟩
  rw [← hF] at hf hfb HR7 ⊢
  clear hF
  subst hf
  have hkf : w7.cell? ⟨κ, 3, none⟩ = some (.func (.func 63) #[] #[]) := by rw [cell_of_row _ _ _ _ _ _ HK7.out]; rfl
  go_wp2_with fail
  clear hkf
  refine Calls.mono (readReport_a q1 g 2 (n2 : Nat) (n3 : Nat) _ _ _ _ _ _ W w7 HR7.out HW7.out HP.out.1 HPG.out HU7.out HD1.out HT1.out HM.out) ?_
  rintro er1 w8 ⟨rfl, hr8, hu8, hw8⟩
  have HU8 : Hid (UBx w8 g #[.int .i64 2, .int .u64 (n2 : Nat), .int .u64 (n3 : Nat), .int .i64 0, .int .i64 0, .int .i64 0, .slice none 0 0, .int .i64 (m1 : Nat), .slice none 0 0]) := hu8
  have HR8 : Hid (RS w8 p B v1 (mustF q1 t1)) := hr8
  have HW8 : Hid (Below W.heap.size W w8) := hw8
  clear hr8 hu8 hw8
  go_wp2_with (first
    | (refine wpList_load_g (by rfl) 38 _ rfl g 0 (by rfl) [.int .i64 2, .int .u64 (n2 : Nat), .int .u64 (n3 : Nat), .int .i64 0, .int .i64 0, .int .i64 0, .slice none 0 0, .int .i64 (m1 : Nat), .slice none 0 0] _ (box_range HU8.out) Tryd.underlying38 rfl info_un ?_)
    | (refine wpList_store_mid rfl 38 _ _ rfl g 0 #[.int .i64 2, .int .u64 (n2 : Nat), .int .u64 (n3 : Nat), .int .i64 0, .int .i64 0, .int .i64 0, .slice none 0 0, .int .i64 (m1 : Nat), .slice none 0 0] rfl rfl (box_there HU8.out rfl) (by kernel_rfl) (by simp [Value.oneCell']) ?_))
  (try simp only [Exit.inBlock, Exit.then])
  refine bodyPost_ret (results_cell_row Tryd.results31 _ _ g 38 #[.int .i64 2, .int .u64 (n2 : Nat), .int .u64 (n3 : Nat), .int .i64 0, .int .i64 0, .int .i64 0, .slice none 0 0, .int .i64 (m1 : Nat), .slice none 0 0] (0, 0) _ rfl (box_set HU8.out rfl) Tryd.underlying38 rfl (by kernel_rfl)) rfl ?_
  have hfin := setCells_grown g [.int .i64 2, .int .u64 (n2 : Nat), .int .u64 (n3 : Nat), .int .i64 0, .int .i64 0, .int .i64 0, .slice none 0 0, .int .i64 (m1 : Nat), .slice none 0 0] 0 w8
  rw [← HGS.out]
  exact ⟨none, 0, none, 0, rfl, World.ownsRow_nil _ _ _ _, OwnR.nil _ _, RS.grown HR8.out hfin (.inr HPG.out), HW8.out.grown hfin HW8.out.size (fun j hj => by cases hj; have := HP.out; have := HPG.out; omega)⟩
theorem read_2c {p B n1 n2 n3 : Nat} {ys y1 y2 y3 : List UInt8} {f f1 f2 f3 : Int} (b2 b3 : Bool) (W w : World) (h : RS w p B ys f) (hW : Below W.heap.size W w) (hpW : W.heap.size ≤ p)
    (e1 : nmS mxU (ys, f) = (2, y1, f1)) (e2 : nmS mxU (y1, mustF true f1) = (n2, y2, f2)) (hb2 : b2 = true ↔ nameOk (n2 : Int)) (e3 : nmS mxU (y2, mustF b2 f2) = (n3, y3, f3)) (hb3 : b3 = true ↔ nameOk (n3 : Int)) (hf : mustF b3 f3 = 0) {m2 : Nat} {v1 v2 v3 : List UInt8} {t1 t2 t3 : Int} {L : List Rg} (q1 q2 : Bool) (E1 : nmS mxU (y3, 0) = (0, v1, t1)) (hq1 : q1 = true ↔ (0 ≤ ((0 : Nat) : Int) ∧ ((0 : Nat) : Int) ≤ 7)) (E2 : nmS mxU (v1, mustF q1 t1) = (m2, v2, t2)) (hq2 : q2 = true ↔ m2 ≤ 32) (E3 : rgsS m2 [] (v2, mustF q2 t2) = (L, v3, t3)) :
    Calls Tryd.prog 31 #[.pointer (some ⟨p, 0, none⟩)] w fun er w' => RdOut W p B w.heap.size ⟨2, (n2 : Nat), (n3 : Nat), 0, 0, 0, [], 0, L⟩ v3 t3 er w' := by
  have HP : Hid (W.heap.size ≤ p ∧ p < w.heap.size) := ⟨hpW, h.lt⟩
  have HE1 : Hid _ := e1
  have HE2 : Hid _ := e2
  have HE3 : Hid _ := e3
  have HQ2 : Hid _ := hb2
  have HQ3 : Hid _ := hb3
  have HR0 : Hid (RS w p B ys f) := h
  have HW0 : Hid (Below W.heap.size W w) := hW
  have HK : Hid (KindIs (2 : Int) kd2 true) := .inr (.inl ⟨rfl, rfl, rfl⟩)
  have HD1 : Hid _ := E1
  have HD2 : Hid _ := E2
  have HD3 : Hid _ := E3
  have HT1 : Hid _ := hq1
  have HT2 : Hid _ := hq2
  clear E1 E2 E3 hq1 hq2
  clear h hW hpW e1 e2 e3 hb2 hb3
  have hsf := fun (u : World) (a : Addr) (n : Nat) => run_store Tryd.prog u a (.func (.func n) #[] #[]) .plain rfl
  have hsn := fun (u : World) (a : Addr) => run_store Tryd.prog u a .nilFunc .plain rfl
  go_enter Tryd.func31, Tryd.ntmps31
  go_wp2_with fail
  refine Calls.mono (small_t _ (RS.below HR0.out (al (Below.refl _ _) _)) HE1.out) ?_
  rintro er1 w1 ⟨rfl, hr, hg⟩
  obtain ⟨g, hgs⟩ : ∃ g, g = w.heap.size := ⟨_, rfl⟩
  rw [← hgs]
  have HGS : Hid (g = w.heap.size) := hgs
  have HPG : Hid (p < g) := by unfold Hid; rw [hgs]; exact HP.out.2
  have HU1 : Hid (UBx w1 g #[.int .i64 0, .int .u64 0, .int .u64 0, .int .i64 0, .int .i64 0, .int .i64 0, .slice none 0 0, .int .i64 0, .slice none 0 0]) := by unfold Hid; rw [hgs]; exact gr_box hg (by have := HP.out; omega) (heap_alloc_new w _)
  have HR1 : Hid (RS w1 p B y1 f1) := hr
  have HW1 : Hid (Below W.heap.size W w1) := (HW0.out.alloc HW0.out.size _).grown hg (HW0.out.alloc HW0.out.size _).size (fun j hj => by cases hj; exact HP.out.1)
  clear hr hg hgs
  have c0 : w1.cell? ⟨g, 0, none⟩ = some (.int .i64 0) := by rw [cell_of_row _ _ _ _ _ _ HU1.out]; rfl
  have z0 : w1.frozen? ⟨g, 0, none⟩ = false := by simp [World.frozen?, HU1.out]
  obtain ⟨x1, hx1⟩ : ∃ x : World, x = w1.setCell ⟨g, 0, none⟩ (.int .i64 2) := ⟨_, rfl⟩
  have HG1x : Hid (w1.grownBy x1 (some g)) := by unfold Hid; rw [hx1]; exact gset1 _ _ _ _
  have HU1x : Hid (UBx x1 g #[.int .i64 2, .int .u64 0, .int .u64 0, .int .i64 0, .int .i64 0, .int .i64 0, .slice none 0 0, .int .i64 0, .slice none 0 0]) := by unfold Hid UBx; rw [hx1, heap_setCell_same w1 g 0 _ _ _ HU1.out]; rfl
  have HR1x : Hid (RS x1 p B y1 f1) := RS.grown HR1.out HG1x.out (.inr HPG.out)
  have HW1x : Hid (Below W.heap.size W x1) := HW1.out.grown HG1x.out HW1.out.size (fun j hj => by cases hj; have := HP.out; have := HPG.out; omega)
  go_wp2_with fail
  rw [← hx1]
  clear hx1 c0 z0
  refine Calls.mono (kindOf_t _ _ _ HK.out _) ?_
  rintro er1 w2 ⟨rfl, hb⟩
  have HU2 : Hid (UBx w2 g #[.int .i64 2, .int .u64 0, .int .u64 0, .int .i64 0, .int .i64 0, .int .i64 0, .slice none 0 0, .int .i64 0, .slice none 0 0]) := (hb.block g (Array.getElem?_eq_some_iff.1 HU1x.out).1).trans HU1x.out
  have HR2 : Hid (RS w2 p B y1 f1) := RS.below HR1x.out hb
  have HW2 : Hid (Below W.heap.size W w2) := below_next HW1x.out hb
  have HS2 : Hid (g < w2.heap.size) := (Array.getElem?_eq_some_iff.1 HU2.out).1
  clear hb
  go_wp2_with fail
  refine Calls.mono (must_t true _ (RS.below HR2.out (al (Below.refl _ _) _))) ?_
  rintro er1 w3 ⟨rfl, hr, hg⟩
  have HU3 : Hid (UBx w3 g #[.int .i64 2, .int .u64 0, .int .u64 0, .int .i64 0, .int .i64 0, .int .i64 0, .slice none 0 0, .int .i64 0, .slice none 0 0]) := gr_box hg (by have := HPG.out; omega) (((al (Below.refl _ _) _).block g HS2.out).trans HU2.out)
  have HK3 : Hid (w3.heap[w2.heap.size]? = some (.cells #[.int .i64 2, .func (.func 61) #[] #[], .func (.func 62) #[] #[], .func (.func 63) #[] #[]] 56 (0, 0))) := gr_box hg (by have := HPG.out; have := HS2.out; omega) (heap_alloc_new w2 _)
  have HR3 : Hid (RS w3 p B y1 (mustF true f1)) := hr
  have HW3 : Hid (Below W.heap.size W w3) := (HW2.out.alloc HW2.out.size _).grown hg (HW2.out.alloc HW2.out.size _).size (fun j hj => by cases hj; exact HP.out.1)
  clear hr hg
  obtain ⟨κ, hκ⟩ : ∃ κ, κ = w2.heap.size := ⟨_, rfl⟩
  rw [← hκ] at HK3 HS2 ⊢
  clear hκ
  go_wp2_with fail
  refine Calls.mono (number_t (m := mxU) _ HR3.out HE2.out) ?_
  rintro er1 w4 ⟨rfl, hr, hg⟩
  have HU4 : Hid (UBx w4 g #[.int .i64 2, .int .u64 0, .int .u64 0, .int .i64 0, .int .i64 0, .int .i64 0, .slice none 0 0, .int .i64 0, .slice none 0 0]) := gr_box hg (by have := HPG.out; omega) HU3.out
  have HK4 : Hid (w4.heap[κ]? = some (.cells #[.int .i64 2, .func (.func 61) #[] #[], .func (.func 62) #[] #[], .func (.func 63) #[] #[]] 56 (0, 0))) := gr_box hg (by have := HPG.out; have := HS2.out; omega) HK3.out
  have HR4 : Hid (RS w4 p B y2 f2) := hr
  have HW4 : Hid (Below W.heap.size W w4) := HW3.out.grown hg HW3.out.size (fun j hj => by cases hj; exact HP.out.1)
  clear hr hg
  have c1 : w4.cell? ⟨g, 1, none⟩ = some (.int .u64 0) := by rw [cell_of_row _ _ _ _ _ _ HU4.out]; rfl
  have z1 : w4.frozen? ⟨g, 1, none⟩ = false := by simp [World.frozen?, HU4.out]
  obtain ⟨x4, hx4⟩ : ∃ x : World, x = w4.setCell ⟨g, 1, none⟩ (.int .u64 (n2 : Nat)) := ⟨_, rfl⟩
  have HG4x : Hid (w4.grownBy x4 (some g)) := by unfold Hid; rw [hx4]; exact gset1 _ _ _ _
  have HU4x : Hid (UBx x4 g #[.int .i64 2, .int .u64 (n2 : Nat), .int .u64 0, .int .i64 0, .int .i64 0, .int .i64 0, .slice none 0 0, .int .i64 0, .slice none 0 0]) := by unfold Hid UBx; rw [hx4, heap_setCell_same w4 g 1 _ _ _ HU4.out]; rfl
  have HK4x : Hid (x4.heap[κ]? = some (.cells #[.int .i64 2, .func (.func 61) #[] #[], .func (.func 62) #[] #[], .func (.func 63) #[] #[]] 56 (0, 0))) := gr_box HG4x.out (by have := HS2.out; omega) HK4.out
  have HR4x : Hid (RS x4 p B y2 f2) := RS.grown HR4.out HG4x.out (.inr HPG.out)
  have HW4x : Hid (Below W.heap.size W x4) := HW4.out.grown HG4x.out HW4.out.size (fun j hj => by cases hj; have := HP.out; have := HPG.out; omega)
  go_wp2_with (go_at_call 37; refine Calls.mono (goodName_b _ b2 HQ2.out _) ?_; rintro er1 wq ⟨rfl, hq⟩; have hq := hq.symm; subst hq)
  rw [← hx4]
  clear hx4 c1 z1
  refine Calls.mono (must_t b2 _ HR4x.out) ?_
  rintro er1 w5 ⟨rfl, hr, hg⟩
  have HU5 : Hid (UBx w5 g #[.int .i64 2, .int .u64 (n2 : Nat), .int .u64 0, .int .i64 0, .int .i64 0, .int .i64 0, .slice none 0 0, .int .i64 0, .slice none 0 0]) := gr_box hg (by have := HPG.out; omega) HU4x.out
  have HK5 : Hid (w5.heap[κ]? = some (.cells #[.int .i64 2, .func (.func 61) #[] #[], .func (.func 62) #[] #[], .func (.func 63) #[] #[]] 56 (0, 0))) := gr_box hg (by have := HPG.out; have := HS2.out; omega) HK4x.out
  have HR5 : Hid (RS w5 p B y2 (mustF b2 f2)) := hr
  have HW5 : Hid (Below W.heap.size W w5) := HW4x.out.grown hg HW4x.out.size (fun j hj => by cases hj; exact HP.out.1)
  clear hr hg
  go_wp2_with fail
  refine Calls.mono (number_t (m := mxU) _ HR5.out HE3.out) ?_
  rintro er1 w6 ⟨rfl, hr, hg⟩
  have HU6 : Hid (UBx w6 g #[.int .i64 2, .int .u64 (n2 : Nat), .int .u64 0, .int .i64 0, .int .i64 0, .int .i64 0, .slice none 0 0, .int .i64 0, .slice none 0 0]) := gr_box hg (by have := HPG.out; omega) HU5.out
  have HK6 : Hid (w6.heap[κ]? = some (.cells #[.int .i64 2, .func (.func 61) #[] #[], .func (.func 62) #[] #[], .func (.func 63) #[] #[]] 56 (0, 0))) := gr_box hg (by have := HPG.out; have := HS2.out; omega) HK5.out
  have HR6 : Hid (RS w6 p B y3 f3) := hr
  have HW6 : Hid (Below W.heap.size W w6) := HW5.out.grown hg HW5.out.size (fun j hj => by cases hj; exact HP.out.1)
  clear hr hg
  have c2 : w6.cell? ⟨g, 2, none⟩ = some (.int .u64 0) := by rw [cell_of_row _ _ _ _ _ _ HU6.out]; rfl
  have z2 : w6.frozen? ⟨g, 2, none⟩ = false := by simp [World.frozen?, HU6.out]
  obtain ⟨x6, hx6⟩ : ∃ x : World, x = w6.setCell ⟨g, 2, none⟩ (.int .u64 (n3 : Nat)) := ⟨_, rfl⟩
  have HG6x : Hid (w6.grownBy x6 (some g)) := by unfold Hid; rw [hx6]; exact gset1 _ _ _ _
  have HU6x : Hid (UBx x6 g #[.int .i64 2, .int .u64 (n2 : Nat), .int .u64 (n3 : Nat), .int .i64 0, .int .i64 0, .int .i64 0, .slice none 0 0, .int .i64 0, .slice none 0 0]) := by unfold Hid UBx; rw [hx6, heap_setCell_same w6 g 2 _ _ _ HU6.out]; rfl
  have HK6x : Hid (x6.heap[κ]? = some (.cells #[.int .i64 2, .func (.func 61) #[] #[], .func (.func 62) #[] #[], .func (.func 63) #[] #[]] 56 (0, 0))) := gr_box HG6x.out (by have := HS2.out; omega) HK6.out
  have HR6x : Hid (RS x6 p B y3 f3) := RS.grown HR6.out HG6x.out (.inr HPG.out)
  have HW6x : Hid (Below W.heap.size W x6) := HW6.out.grown HG6x.out HW6.out.size (fun j hj => by cases hj; have := HP.out; have := HPG.out; omega)
  go_wp2_with (go_at_call 37; refine Calls.mono (goodName_b _ b3 HQ3.out _) ?_; rintro er1 wq ⟨rfl, hq⟩; have hq := hq.symm; subst hq)
  rw [← hx6]
  clear hx6 c2 z2
  refine Calls.mono (must_t b3 _ HR6x.out) ?_
  rintro er1 w7 ⟨rfl, hr, hg⟩
  have HU7 : Hid (UBx w7 g #[.int .i64 2, .int .u64 (n2 : Nat), .int .u64 (n3 : Nat), .int .i64 0, .int .i64 0, .int .i64 0, .slice none 0 0, .int .i64 0, .slice none 0 0]) := gr_box hg (by have := HPG.out; omega) HU6x.out
  have HK7 : Hid (w7.heap[κ]? = some (.cells #[.int .i64 2, .func (.func 61) #[] #[], .func (.func 62) #[] #[], .func (.func 63) #[] #[]] 56 (0, 0))) := gr_box hg (by have := HPG.out; have := HS2.out; omega) HK6x.out
  have HR7 : Hid (RS w7 p B y3 (mustF b3 f3)) := hr
  have HW7 : Hid (Below W.heap.size W w7) := HW6x.out.grown hg HW6x.out.size (fun j hj => by cases hj; exact HP.out.1)
  clear hr hg
  go_wp2_with fail
  refine Calls.mono (err_t _ HR7.out) ?_
  rintro er1 u ⟨rfl, hu⟩
  rw [hu]
  clear hu u
  have hfb : (mustF b3 f3 == 0) = true := by simpa using hf
  obtain ⟨F, hF⟩ : ∃ F, F = mustF b3 f3 := ⟨_, rfl⟩
  rw [← hF] at hf hfb HR7 ⊢
  clear hF
  subst hf
  have hkf : w7.cell? ⟨κ, 3, none⟩ = some (.func (.func 63) #[] #[]) := by rw [cell_of_row _ _ _ _ _ _ HK7.out]; rfl
  go_wp2_with fail
  clear hkf
  refine Calls.mono (readReport_b q1 g 2 (n2 : Nat) (n3 : Nat) _ _ _ _ _ _ W w7 HR7.out HW7.out HP.out.1 HPG.out HU7.out HD1.out HT1.out rfl q2 HD2.out HT2.out HD3.out rfl) ?_
  rintro er1 w8 ⟨a8, c8, rfl, hr8, hu8, ho8, hw8⟩
  obtain ⟨D, hD⟩ : ∃ D, D = L.length := ⟨_, rfl⟩
  have HU8 : Hid (UBx w8 g #[.int .i64 2, .int .u64 (n2 : Nat), .int .u64 (n3 : Nat), .int .i64 0, .int .i64 0, .int .i64 0, .slice none 0 0, .int .i64 0, .slice a8 D c8]) := by unfold Hid; rw [hD]; exact hu8
  have HR8 : Hid (RS w8 p B v3 t3) := hr8
  have HO8 : Hid (OwnR w8 (g + 1) (.slice a8 L.length c8) L) := ho8
  have HW8 : Hid (Below W.heap.size W w8) := hw8
  have HDD : Hid (D = L.length) := hD
  clear hr8 hu8 ho8 hw8 hD
  go_wp2_with (first
    | (refine wpList_load_g (by rfl) 38 _ rfl g 0 (by rfl) [.int .i64 2, .int .u64 (n2 : Nat), .int .u64 (n3 : Nat), .int .i64 0, .int .i64 0, .int .i64 0, .slice none 0 0, .int .i64 0, .slice a8 D c8] _ (box_range HU8.out) Tryd.underlying38 rfl info_un ?_)
    | (refine wpList_store_mid rfl 38 _ _ rfl g 0 #[.int .i64 2, .int .u64 (n2 : Nat), .int .u64 (n3 : Nat), .int .i64 0, .int .i64 0, .int .i64 0, .slice none 0 0, .int .i64 0, .slice a8 D c8] rfl rfl (box_there HU8.out rfl) (by kernel_rfl) (by simp [Value.oneCell']) ?_))
  (try simp only [Exit.inBlock, Exit.then])
  refine bodyPost_ret (results_cell_row Tryd.results31 _ _ g 38 #[.int .i64 2, .int .u64 (n2 : Nat), .int .u64 (n3 : Nat), .int .i64 0, .int .i64 0, .int .i64 0, .slice none 0 0, .int .i64 0, .slice a8 D c8] (0, 0) _ rfl (box_set HU8.out rfl) Tryd.underlying38 rfl (by kernel_rfl)) rfl ?_
  have hfin := setCells_grown g [.int .i64 2, .int .u64 (n2 : Nat), .int .u64 (n3 : Nat), .int .i64 0, .int .i64 0, .int .i64 0, .slice none 0 0, .int .i64 0, .slice a8 D c8] 0 w8
  rw [← HGS.out]
  exact ⟨none, 0, a8, c8, by rw [HDD.out]; rfl, World.ownsRow_nil _ _ _ _, OwnR.grown HO8.out hfin (Nat.lt_succ_self _), RS.grown HR8.out hfin (.inr HPG.out), HW8.out.grown hfin HW8.out.size (fun j hj => by cases hj; have := HP.out; have := HPG.out; omega)⟩
theorem read_3b {p B n1 n2 n3 : Nat} {ys y1 y2 y3 : List UInt8} {f f1 f2 f3 : Int} (b2 b3 : Bool) (W w : World) (h : RS w p B ys f) (hW : Below W.heap.size W w) (hpW : W.heap.size ≤ p)
    (e1 : nmS mxU (ys, f) = (3, y1, f1)) (e2 : nmS mxU (y1, mustF true f1) = (n2, y2, f2)) (hb2 : b2 = true ↔ nameOk (n2 : Int)) (e3 : nmS mxU (y2, mustF b2 f2) = (n3, y3, f3)) (hb3 : b3 = true ↔ nameOk (n3 : Int)) (hf : mustF b3 f3 = 0) :
    Calls Tryd.prog 31 #[.pointer (some ⟨p, 0, none⟩)] w fun er w' => RdOut W p B w.heap.size ⟨3, (n2 : Nat), (n3 : Nat), 0, 0, 0, [], 0, []⟩ y3 0 er w' := by
  have HP : Hid (W.heap.size ≤ p ∧ p < w.heap.size) := ⟨hpW, h.lt⟩
  have HE1 : Hid _ := e1
  have HE2 : Hid _ := e2
  have HE3 : Hid _ := e3
  have HQ2 : Hid _ := hb2
  have HQ3 : Hid _ := hb3
  have HR0 : Hid (RS w p B ys f) := h
  have HW0 : Hid (Below W.heap.size W w) := hW
  have HK : Hid (KindIs (3 : Int) kd3 true) := .inr (.inr (.inl ⟨rfl, rfl, rfl⟩))
  clear h hW hpW e1 e2 e3 hb2 hb3
  have hsf := fun (u : World) (a : Addr) (n : Nat) => run_store Tryd.prog u a (.func (.func n) #[] #[]) .plain rfl
  have hsn := fun (u : World) (a : Addr) => run_store Tryd.prog u a .nilFunc .plain rfl
  go_enter Tryd.func31, Tryd.ntmps31
  go_wp2_with fail
  refine Calls.mono (small_t _ (RS.below HR0.out (al (Below.refl _ _) _)) HE1.out) ?_
  rintro er1 w1 ⟨rfl, hr, hg⟩
  obtain ⟨g, hgs⟩ : ∃ g, g = w.heap.size := ⟨_, rfl⟩
  rw [← hgs]
  have HGS : Hid (g = w.heap.size) := hgs
  have HPG : Hid (p < g) := by unfold Hid; rw [hgs]; exact HP.out.2
  have HU1 : Hid (UBx w1 g #[.int .i64 0, .int .u64 0, .int .u64 0, .int .i64 0, .int .i64 0, .int .i64 0, .slice none 0 0, .int .i64 0, .slice none 0 0]) := by unfold Hid; rw [hgs]; exact gr_box hg (by have := HP.out; omega) (heap_alloc_new w _)
  have HR1 : Hid (RS w1 p B y1 f1) := hr
  have HW1 : Hid (Below W.heap.size W w1) := (HW0.out.alloc HW0.out.size _).grown hg (HW0.out.alloc HW0.out.size _).size (fun j hj => by cases hj; exact HP.out.1)
  clear hr hg hgs
  have c0 : w1.cell? ⟨g, 0, none⟩ = some (.int .i64 0) := by rw [cell_of_row _ _ _ _ _ _ HU1.out]; rfl
  have z0 : w1.frozen? ⟨g, 0, none⟩ = false := by simp [World.frozen?, HU1.out]
  obtain ⟨x1, hx1⟩ : ∃ x : World, x = w1.setCell ⟨g, 0, none⟩ (.int .i64 3) := ⟨_, rfl⟩
  have HG1x : Hid (w1.grownBy x1 (some g)) := by unfold Hid; rw [hx1]; exact gset1 _ _ _ _
  have HU1x : Hid (UBx x1 g #[.int .i64 3, .int .u64 0, .int .u64 0, .int .i64 0, .int .i64 0, .int .i64 0, .slice none 0 0, .int .i64 0, .slice none 0 0]) := by unfold Hid UBx; rw [hx1, heap_setCell_same w1 g 0 _ _ _ HU1.out]; rfl
  have HR1x : Hid (RS x1 p B y1 f1) := RS.grown HR1.out HG1x.out (.inr HPG.out)
  have HW1x : Hid (Below W.heap.size W x1) := HW1.out.grown HG1x.out HW1.out.size (fun j hj => by cases hj; have := HP.out; have := HPG.out; omega)
  go_wp2_with fail
  rw [← hx1]
  clear hx1 c0 z0
  refine Calls.mono (kindOf_t _ _ _ HK.out _) ?_
  rintro er1 w2 ⟨rfl, hb⟩
  have HU2 : Hid (UBx w2 g #[.int .i64 3, .int .u64 0, .int .u64 0, .int .i64 0, .int .i64 0, .int .i64 0, .slice none 0 0, .int .i64 0, .slice none 0 0]) := (hb.block g (Array.getElem?_eq_some_iff.1 HU1x.out).1).trans HU1x.out
  have HR2 : Hid (RS w2 p B y1 f1) := RS.below HR1x.out hb
  have HW2 : Hid (Below W.heap.size W w2) := below_next HW1x.out hb
  have HS2 : Hid (g < w2.heap.size) := (Array.getElem?_eq_some_iff.1 HU2.out).1
  clear hb
  go_wp2_with fail
  refine Calls.mono (must_t true _ (RS.below HR2.out (al (Below.refl _ _) _))) ?_
  rintro er1 w3 ⟨rfl, hr, hg⟩
  have HU3 : Hid (UBx w3 g #[.int .i64 3, .int .u64 0, .int .u64 0, .int .i64 0, .int .i64 0, .int .i64 0, .slice none 0 0, .int .i64 0, .slice none 0 0]) := gr_box hg (by have := HPG.out; omega) (((al (Below.refl _ _) _).block g HS2.out).trans HU2.out)
  have HK3 : Hid (w3.heap[w2.heap.size]? = some (.cells #[.int .i64 3, .func (.func 64) #[] #[], .func (.func 65) #[] #[], .func (.func 66) #[] #[]] 56 (0, 0))) := gr_box hg (by have := HPG.out; have := HS2.out; omega) (heap_alloc_new w2 _)
  have HR3 : Hid (RS w3 p B y1 (mustF true f1)) := hr
  have HW3 : Hid (Below W.heap.size W w3) := (HW2.out.alloc HW2.out.size _).grown hg (HW2.out.alloc HW2.out.size _).size (fun j hj => by cases hj; exact HP.out.1)
  clear hr hg
  obtain ⟨κ, hκ⟩ : ∃ κ, κ = w2.heap.size := ⟨_, rfl⟩
  rw [← hκ] at HK3 HS2 ⊢
  clear hκ
  go_wp2_with fail
  refine Calls.mono (number_t (m := mxU) _ HR3.out HE2.out) ?_
  rintro er1 w4 ⟨rfl, hr, hg⟩
  have HU4 : Hid (UBx w4 g #[.int .i64 3, .int .u64 0, .int .u64 0, .int .i64 0, .int .i64 0, .int .i64 0, .slice none 0 0, .int .i64 0, .slice none 0 0]) := gr_box hg (by have := HPG.out; omega) HU3.out
  have HK4 : Hid (w4.heap[κ]? = some (.cells #[.int .i64 3, .func (.func 64) #[] #[], .func (.func 65) #[] #[], .func (.func 66) #[] #[]] 56 (0, 0))) := gr_box hg (by have := HPG.out; have := HS2.out; omega) HK3.out
  have HR4 : Hid (RS w4 p B y2 f2) := hr
  have HW4 : Hid (Below W.heap.size W w4) := HW3.out.grown hg HW3.out.size (fun j hj => by cases hj; exact HP.out.1)
  clear hr hg
  have c1 : w4.cell? ⟨g, 1, none⟩ = some (.int .u64 0) := by rw [cell_of_row _ _ _ _ _ _ HU4.out]; rfl
  have z1 : w4.frozen? ⟨g, 1, none⟩ = false := by simp [World.frozen?, HU4.out]
  obtain ⟨x4, hx4⟩ : ∃ x : World, x = w4.setCell ⟨g, 1, none⟩ (.int .u64 (n2 : Nat)) := ⟨_, rfl⟩
  have HG4x : Hid (w4.grownBy x4 (some g)) := by unfold Hid; rw [hx4]; exact gset1 _ _ _ _
  have HU4x : Hid (UBx x4 g #[.int .i64 3, .int .u64 (n2 : Nat), .int .u64 0, .int .i64 0, .int .i64 0, .int .i64 0, .slice none 0 0, .int .i64 0, .slice none 0 0]) := by unfold Hid UBx; rw [hx4, heap_setCell_same w4 g 1 _ _ _ HU4.out]; rfl
  have HK4x : Hid (x4.heap[κ]? = some (.cells #[.int .i64 3, .func (.func 64) #[] #[], .func (.func 65) #[] #[], .func (.func 66) #[] #[]] 56 (0, 0))) := gr_box HG4x.out (by have := HS2.out; omega) HK4.out
  have HR4x : Hid (RS x4 p B y2 f2) := RS.grown HR4.out HG4x.out (.inr HPG.out)
  have HW4x : Hid (Below W.heap.size W x4) := HW4.out.grown HG4x.out HW4.out.size (fun j hj => by cases hj; have := HP.out; have := HPG.out; omega)
  go_wp2_with (go_at_call 37; refine Calls.mono (goodName_b _ b2 HQ2.out _) ?_; rintro er1 wq ⟨rfl, hq⟩; have hq := hq.symm; subst hq)
  rw [← hx4]
  clear hx4 c1 z1
  refine Calls.mono (must_t b2 _ HR4x.out) ?_
  rintro er1 w5 ⟨rfl, hr, hg⟩
  have HU5 : Hid (UBx w5 g #[.int .i64 3, .int .u64 (n2 : Nat), .int .u64 0, .int .i64 0, .int .i64 0, .int .i64 0, .slice none 0 0, .int .i64 0, .slice none 0 0]) := gr_box hg (by have := HPG.out; omega) HU4x.out
  have HK5 : Hid (w5.heap[κ]? = some (.cells #[.int .i64 3, .func (.func 64) #[] #[], .func (.func 65) #[] #[], .func (.func 66) #[] #[]] 56 (0, 0))) := gr_box hg (by have := HPG.out; have := HS2.out; omega) HK4x.out
  have HR5 : Hid (RS w5 p B y2 (mustF b2 f2)) := hr
  have HW5 : Hid (Below W.heap.size W w5) := HW4x.out.grown hg HW4x.out.size (fun j hj => by cases hj; exact HP.out.1)
  clear hr hg
  go_wp2_with fail
  refine Calls.mono (number_t (m := mxU) _ HR5.out HE3.out) ?_
  rintro er1 w6 ⟨rfl, hr, hg⟩
  have HU6 : Hid (UBx w6 g #[.int .i64 3, .int .u64 (n2 : Nat), .int .u64 0, .int .i64 0, .int .i64 0, .int .i64 0, .slice none 0 0, .int .i64 0, .slice none 0 0]) := gr_box hg (by have := HPG.out; omega) HU5.out
  have HK6 : Hid (w6.heap[κ]? = some (.cells #[.int .i64 3, .func (.func 64) #[] #[], .func (.func 65) #[] #[], .func (.func 66) #[] #[]] 56 (0, 0))) := gr_box hg (by have := HPG.out; have := HS2.out; omega) HK5.out
  have HR6 : Hid (RS w6 p B y3 f3) := hr
  have HW6 : Hid (Below W.heap.size W w6) := HW5.out.grown hg HW5.out.size (fun j hj => by cases hj; exact HP.out.1)
  clear hr hg
  have c2 : w6.cell? ⟨g, 2, none⟩ = some (.int .u64 0) := by rw [cell_of_row _ _ _ _ _ _ HU6.out]; rfl
  have z2 : w6.frozen? ⟨g, 2, none⟩ = false := by simp [World.frozen?, HU6.out]
  obtain ⟨x6, hx6⟩ : ∃ x : World, x = w6.setCell ⟨g, 2, none⟩ (.int .u64 (n3 : Nat)) := ⟨_, rfl⟩
  have HG6x : Hid (w6.grownBy x6 (some g)) := by unfold Hid; rw [hx6]; exact gset1 _ _ _ _
  have HU6x : Hid (UBx x6 g #[.int .i64 3, .int .u64 (n2 : Nat), .int .u64 (n3 : Nat), .int .i64 0, .int .i64 0, .int .i64 0, .slice none 0 0, .int .i64 0, .slice none 0 0]) := by unfold Hid UBx; rw [hx6, heap_setCell_same w6 g 2 _ _ _ HU6.out]; rfl
  have HK6x : Hid (x6.heap[κ]? = some (.cells #[.int .i64 3, .func (.func 64) #[] #[], .func (.func 65) #[] #[], .func (.func 66) #[] #[]] 56 (0, 0))) := gr_box HG6x.out (by have := HS2.out; omega) HK6.out
  have HR6x : Hid (RS x6 p B y3 f3) := RS.grown HR6.out HG6x.out (.inr HPG.out)
  have HW6x : Hid (Below W.heap.size W x6) := HW6.out.grown HG6x.out HW6.out.size (fun j hj => by cases hj; have := HP.out; have := HPG.out; omega)
  go_wp2_with (go_at_call 37; refine Calls.mono (goodName_b _ b3 HQ3.out _) ?_; rintro er1 wq ⟨rfl, hq⟩; have hq := hq.symm; subst hq)
  rw [← hx6]
  clear hx6 c2 z2
  refine Calls.mono (must_t b3 _ HR6x.out) ?_
  rintro er1 w7 ⟨rfl, hr, hg⟩
  have HU7 : Hid (UBx w7 g #[.int .i64 3, .int .u64 (n2 : Nat), .int .u64 (n3 : Nat), .int .i64 0, .int .i64 0, .int .i64 0, .slice none 0 0, .int .i64 0, .slice none 0 0]) := gr_box hg (by have := HPG.out; omega) HU6x.out
  have HK7 : Hid (w7.heap[κ]? = some (.cells #[.int .i64 3, .func (.func 64) #[] #[], .func (.func 65) #[] #[], .func (.func 66) #[] #[]] 56 (0, 0))) := gr_box hg (by have := HPG.out; have := HS2.out; omega) HK6x.out
  have HR7 : Hid (RS w7 p B y3 (mustF b3 f3)) := hr
  have HW7 : Hid (Below W.heap.size W w7) := HW6x.out.grown hg HW6x.out.size (fun j hj => by cases hj; exact HP.out.1)
  clear hr hg
  go_wp2_with fail
  refine Calls.mono (err_t _ HR7.out) ?_
  rintro er1 u ⟨rfl, hu⟩
  rw [hu]
  clear hu u
  have hfb : (mustF b3 f3 == 0) = true := by simpa using hf
  obtain ⟨F, hF⟩ : ∃ F, F = mustF b3 f3 := ⟨_, rfl⟩
  rw [← hF] at hf hfb HR7 ⊢
  clear hF
  subst hf
  have hkf : w7.cell? ⟨κ, 3, none⟩ = some (.func (.func 66) #[] #[]) := by rw [cell_of_row _ _ _ _ _ _ HK7.out]; rfl
  go_wp2_with fail
  clear hkf
  refine Calls.mono (readCancel_t p g w7) ?_
  rintro er1 w8 ⟨rfl, hw8⟩
  rw [hw8]
  clear hw8 w8
  go_wp2_with (first
    | (refine wpList_load_g (by rfl) 38 _ rfl g 0 (by rfl) [.int .i64 3, .int .u64 (n2 : Nat), .int .u64 (n3 : Nat), .int .i64 0, .int .i64 0, .int .i64 0, .slice none 0 0, .int .i64 0, .slice none 0 0] _ (box_range HU7.out) Tryd.underlying38 rfl info_un ?_)
    | (refine wpList_store_mid rfl 38 _ _ rfl g 0 #[.int .i64 3, .int .u64 (n2 : Nat), .int .u64 (n3 : Nat), .int .i64 0, .int .i64 0, .int .i64 0, .slice none 0 0, .int .i64 0, .slice none 0 0] rfl rfl (box_there HU7.out rfl) (by kernel_rfl) (by simp [Value.oneCell']) ?_))
  (try simp only [Exit.inBlock, Exit.then])
  refine bodyPost_ret (results_cell_row Tryd.results31 _ _ g 38 #[.int .i64 3, .int .u64 (n2 : Nat), .int .u64 (n3 : Nat), .int .i64 0, .int .i64 0, .int .i64 0, .slice none 0 0, .int .i64 0, .slice none 0 0] (0, 0) _ rfl (box_set HU7.out rfl) Tryd.underlying38 rfl (by kernel_rfl)) rfl ?_
  have hfin := setCells_grown g [.int .i64 3, .int .u64 (n2 : Nat), .int .u64 (n3 : Nat), .int .i64 0, .int .i64 0, .int .i64 0, .slice none 0 0, .int .i64 0, .slice none 0 0] 0 w7
  rw [← HGS.out]
  exact ⟨none, 0, none, 0, rfl, World.ownsRow_nil _ _ _ _, OwnR.nil _ _, RS.grown HR7.out hfin (.inr HPG.out), HW7.out.grown hfin HW7.out.size (fun j hj => by cases hj; have := HP.out; have := HPG.out; omega)⟩
end
end Go.Proofs.YtkjdeeamckmebaaDoor
