import Derived.Test.YtkjdeeamckmebaaDoorURd
import Derived.Test.YtkjdeeamckmebaaDoorUSl
namespace Go.Proofs.YtkjdeeamckmebaaDoor
set_option linter.unusedVariables false
set_option linter.unusedSimpArgs false
open Go.RowKit
/-- append of two ranges that have just been laid, within a region -/
theorem wpo_appR2 {w : World} {o : Oper} {a : Act} {K : Act → World → Prop} {Q : Exit → Act → World → Prop} (s x : Operand)
    (ho : o.op = .call { callee := .builtin .append, args := #[s, x], argTypes := #[22, 22] }) (B : Nat) (v : Value) (xs : List Rg) (n : Nat) (hn : n = xs.length) (y z : Rg) (g : Nat)
    (hs : a.eval s = v) (hown : OwnR w B v xs) (hx : a.eval x = .slice (some ⟨g, 0, none⟩) 2 2) (hg : w.heap[g]? = some (.cells #[.int .i64 y.1, .int .i64 y.2, .int .i64 z.1, .int .i64 z.2] 28 (0, 0))) (hb : n ≤ 1099511627776) (hbase : B ≤ w.heap.size)
    (h : ∀ g' cap w', OwnR w' B (.slice (some ⟨g', 0, none⟩) (n + 2) cap) (xs ++ [y, z]) → w.grownBy w' v.ownBlock → (v.ownBlock = some g' ∨ g' = w.heap.size) → K (a.put o.dst (.slice (some ⟨g', 0, none⟩) (n + 2) cap)) w') : Oper.wp Tryd.prog o a w K Q := by
  subst hn
  obtain ⟨i0, hi, hz0, hz1, hz2⟩ := info_parts infoR
  refine wp_append_lies w s x 22 ho B 28 i0 _ 2 16 Tryd.underlying22 hi hz0 hz1 hz2 rfl (by decide) v xs.length (flatR xs) hs hown ⟨g, 0, none⟩ 2 2 (rv y ++ rv z) hx rfl (World.news_of_block hg) (by intro u hu; simp at hu; rcases hu with rfl | rfl | rfl | rfl <;> rfl) (by decide) (by simp only [maxLen]; omega) (by omega) hbase w.heap.size rfl ?_
  intro g' cap w' h1 h2 h3 _
  refine h g' cap w' ?_ h2 h3
  unfold OwnR
  rw [show (xs ++ [y, z]).length = xs.length + 2 by simp, show xs ++ [y, z] = xs ++ [y] ++ [z] by simp, flatR_app, flatR_app, flatR_one, flatR_one, List.append_assoc]
  exact h1
theorem LeastOut.four {xs : List Rg} {w w' : World} {e : Ending} (h : LeastOut xs w e w') : ∃ a k c out, e = .returned (.slice a k c) ∧ k = out.length ∧ RdR w' a out ∧ (a = none → c = 0) ∧ Lst out ∧ (∀ i, hasR out i ↔ hasR xs i) ∧ k ≤ xs.length ∧ Below w.heap.size w w' := by
  obtain ⟨v, out, rfl, h1, h2, h3, h4, h5⟩ := h
  obtain ⟨a, c, rfl, -, -, hn, hr, -⟩ := h1.val
  exact ⟨a, out.length, c, out, rfl, rfl, hr, hn, h2, h3, h4, h5⟩
theorem MissOut.four {xs : List Rg} {m : Int} {w w' : World} {e : Ending} (h : MissOut xs m w e w') : ∃ a k c out, e = .returned (.slice a k c) ∧ k = out.length ∧ RdR w' a out ∧ (a = none → c = 0) ∧ MissS xs out m ∧ k ≤ xs.length + 1 ∧ Below w.heap.size w w' := by
  obtain ⟨v, out, rfl, h1, h2, h4, h5⟩ := h
  obtain ⟨a, c, rfl, -, -, hn, hr, -⟩ := h1.val
  exact ⟨a, out.length, c, out, rfl, rfl, hr, hn, h2, h4, h5⟩
theorem hasR_drop {m : List Rg} {k : Nat} (hk : k < m.length) (i : Int) : hasR (m.drop k) i ↔ (m[k].1 ≤ i ∧ i < m[k].2) ∨ hasR (m.drop (k + 1)) i := by
  rw [List.drop_eq_getElem_cons hk, hasR_cons]
theorem hasR_take {m : List Rg} {k : Nat} (hk : k < m.length) (i : Int) : hasR (m.take (k + 1)) i ↔ hasR (m.take k) i ∨ (m[k].1 ≤ i ∧ i < m[k].2) := by
  rw [List.take_succ_eq_append_getElem hk, hasR_snoc]
section
set_option maxRecDepth 20000
set_option maxHeartbeats 12800000
theorem pduSets_walk (la : Option Addr) (lc : Nat) (l : List Rg) (ma : Option Addr) (mc : Nat) (m : List Rg) (ct nn : Int) (w : World)
    (hl : RdR w la l) (hlc : l.length ≤ lc) (hln : la = none → lc = 0) (hlb : lc ≤ 1048576) (hm : RdR w ma m) (hmc : m.length ≤ mc) (hmn : ma = none → mc = 0) (hmb : mc ≤ 1048576) (hct : I64 ct) (hnn : I64 nn) (ht : TabOk w) :
    Calls Tryd.prog 3 #[.slice la l.length lc, .slice ma m.length mc, .int .i64 ct, .int .i64 nn] w fun e w' => e = .returned (.bool true) ∧ Below w.heap.size w w' := by
  obtain ⟨n, hn9⟩ : ∃ n : Nat, n = l.length := ⟨_, rfl⟩
  obtain ⟨M, hM9⟩ : ∃ n : Nat, n = m.length := ⟨_, rfl⟩
  rw [← hn9, ← hM9]
  have HNM : Hid (n = l.length ∧ M = m.length ∧ n ≤ 1048576 ∧ M ≤ 1048576 ∧ (la = none → lc = 0) ∧ (ma = none → mc = 0)) := ⟨hn9, hM9, by omega, by omega, hln, hmn⟩
  have HL : Hid (∀ u, Below w.heap.size w u → RdR u la l) := fun u hu => hl.below hu
  have HM : Hid (∀ u, Below w.heap.size w u → RdR u ma m) := fun u hu => hm.below hu
  have HU : Hid (∀ u, Below w.heap.size w u → Calls Tryd.prog 5 #[.slice la n lc, .slice ma M mc] u fun e w' => LeastOut (l ++ m) u e w') := fun u hu => union_t la ma n M lc mc l m u hn9 hM9 (hl.below hu) (hm.below hu) (by omega) hln hmn
  have HU2 : Hid (∀ u, Below w.heap.size w u → Calls Tryd.prog 5 #[.slice ma M mc, .slice la n lc] u fun e w' => LeastOut (m ++ l) u e w') := fun u hu => union_t ma la M n mc lc m l u hM9 hn9 (hm.below hu) (hl.below hu) (by omega) hmn hln
  have HLE : Hid (∀ u, Below w.heap.size w u → Calls Tryd.prog 7 #[.slice la n lc] u fun e w' => LeastOut l u e w') := fun u hu => least_t la n lc l u hn9 (hl.below hu) hln (by omega)
  have HNU : Hid (∀ (i : Int) u, Below w.heap.size w u → Calls Tryd.prog 8 #[.slice la n lc, .slice ma M mc, .int .i64 i] u fun e w' => e = .returned (.bool true) ∧ Below u.heap.size u w') := fun i u hu => numberL_t la ma n M lc mc l m i u hn9 hM9 (hl.below hu) (hm.below hu) (by omega) hln hmn
  have HMI : Hid (∀ u, Below w.heap.size w u → Calls Tryd.prog 10 #[.slice la n lc, .int .i64 nn] u fun e w' => MissOut l nn u e w') := fun u hu => missing_t la n lc l nn u hn9 (hl.below hu) hln (by omega)
  have HHA : Hid (∀ (i : Int) u, Below w.heap.size w u → hasR l i → Calls Tryd.prog 11 #[.slice la n lc, .int .i64 i] u fun e w' => e = .returned (.bool true) ∧ Below u.heap.size u w') := fun i u hu hi => by
    have h9 := has_t la n lc l i u hn9 (hl.below hu) (by omega)
    rw [(hasB_iffR l i).2 hi] at h9
    exact h9
  have HSM : Hid _ := small_law w ht
  have HIN : Hid (I64 ct ∧ I64 nn) := ⟨hct, hnn⟩
  clear hl hlc hln hlb hm hmc hmn hmb hct hnn ht hn9 hM9
  go_enter Tryd.func3, Tryd.ntmps3
  go_wp2_with fail
  refine Calls.mono HSM.out ?_
  rintro e w1 ⟨rfl, hb1⟩
  have HB1 : Hid (Below w.heap.size w w1) := hb1
  clear hb1 HSM
  go_wp2_with fail
  refine Calls.mono (HU.out _ HB1.out) ?_
  intro e w2 h2
  obtain ⟨aa, ka, ca, A, rfl, hka, hra, hna, hla, hma, hlea, hb2⟩ := h2.four
  have HA : Hid (ka = A.length ∧ (aa = none → ca = 0) ∧ Lst A ∧ (∀ i, hasR A i ↔ hasR (l ++ m) i) ∧ ka ≤ 2097152) := ⟨hka, hna, hla, hma, by have := HNM.out; rw [List.length_append] at hlea; omega⟩
  have HB2 : Hid (Below w.heap.size w w2) := below_next HB1.out hb2
  have HRA : Hid (∀ u, Below w2.heap.size w2 u → RdR u aa A) := fun u hu => hra.below hu
  clear h2 hka hra hna hla hma hlea hb2
  go_wp2_with fail
  refine Calls.mono (leastL_t aa ka ca A w2 HA.out.1 (HRA.out _ (Below.refl _ _)) (by have := HA.out; omega) HA.out.2.2.1) ?_
  rintro e w3 ⟨rfl, hb3⟩
  have HC3 : Hid (Below w2.heap.size w2 w3) := hb3
  clear hb3
  go_wp2_with fail
  refine Calls.mono (HLE.out _ (below_next HB2.out HC3.out)) ?_
  intro e w4 h4
  obtain ⟨a4, k4, c4, o4, rfl, hk4, hr4, hn4, hl4, hm4, hle4, hb4⟩ := h4.four
  have HC4 : Hid (Below w2.heap.size w2 w4) := below_next HC3.out hb4
  have HLL : Hid _ := leastL_t a4 k4 c4 o4 w4 hk4 hr4 (by have := HNM.out; omega) hl4
  clear h4 hk4 hr4 hn4 hl4 hm4 hle4 hb4
  go_wp2_with fail
  refine Calls.mono HLL.out ?_
  rintro e w5 ⟨rfl, hb5⟩
  have HC5 : Hid (Below w2.heap.size w2 w5) := below_next HC4.out hb5
  clear hb5 HLL
  go_wp2_with fail
  go_loopw [10] (fun j wr => ∃ k : Nat, k ≤ n ∧ j = .int .i64 (k : Int) ∧ Below w2.heap.size w2 wr) (fun j _ => n - (intOf j).toNat)
  case atStart => exact ⟨0, Nat.zero_le _, rfl, HC5.out⟩
  case round =>
    obtain ⟨k, hk, rfl, hbw⟩ := hrel
    have HBW : Hid (Below w2.heap.size w2 wr) := hbw
    have hkw : IntKind.i64.wrap ((k : Int) + 1) = ((k + 1 : Nat) : Int) := by have := HNM.out; rw [IntKind.wrap_i64]; omega
    clear hbw
    by_cases hlt : k < n
    · have hk1 : k < l.length := by rw [← HNM.out.1]; exact hlt
      have hlti : (k : Int) < (n : Int) := by omega
      have hk0 : (0 : Int) ≤ (k : Int) := by omega
      have hrr := HL.out wr (below_next HB2.out HBW.out) k hk1
      obtain ⟨b, o, hlae, hc0, hc1⟩ := hrr
      obtain ⟨x, hx9⟩ : ∃ x : Rg, x = l[k] := ⟨_, rfl⟩
      rw [← hx9] at hc0 hc1
      subst hlae
      clear hx9
      by_cases q1 : -9223372036854775808 < x.1
      · have q1d : decide (-9223372036854775808 < x.1) = true := decide_eq_true q1
        by_cases q2 : -9223372036854775808 < x.2
        · have q2d : decide (-9223372036854775808 < x.2) = true := decide_eq_true q2
          go_wp2_with fail
          refine Calls.mono (HNU.out _ _ (below_next HB2.out HBW.out)) ?_
          rintro e v1 ⟨rfl, hbv⟩
          have HBW1 : Hid (Below w2.heap.size w2 v1) := below_next HBW.out hbv
          clear hbv
          clear hc0 hc1
          go_wp2_with fail
          refine Calls.mono (HNU.out _ _ (below_next HB2.out HBW1.out)) ?_
          rintro e v2 ⟨rfl, hbv⟩
          have HBW2 : Hid (Below w2.heap.size w2 v2) := below_next HBW1.out hbv
          clear hbv
          go_wp2_with fail
          refine Calls.mono (HNU.out _ _ (below_next HB2.out HBW2.out)) ?_
          rintro e v3 ⟨rfl, hbv⟩
          have HBW3 : Hid (Below w2.heap.size w2 v3) := below_next HBW2.out hbv
          clear hbv
          go_wp2_with fail
          refine Calls.mono (HNU.out _ _ (below_next HB2.out HBW3.out)) ?_
          rintro e v4 ⟨rfl, hbv⟩
          have HBW4 : Hid (Below w2.heap.size w2 v4) := below_next HBW3.out hbv
          clear hbv
          go_wp2
          go_roundw
          case rel => exact ⟨k + 1, by omega, by go_num, HBW4.out⟩
          case measure => simp [intOf]; omega
        · have q2d : decide (-9223372036854775808 < x.2) = false := decide_eq_false q2
          go_wp2_with fail
          refine Calls.mono (HNU.out _ _ (below_next HB2.out HBW.out)) ?_
          rintro e v1 ⟨rfl, hbv⟩
          have HBW1 : Hid (Below w2.heap.size w2 v1) := below_next HBW.out hbv
          clear hbv
          clear hc0 hc1
          go_wp2_with fail
          refine Calls.mono (HNU.out _ _ (below_next HB2.out HBW1.out)) ?_
          rintro e v2 ⟨rfl, hbv⟩
          have HBW2 : Hid (Below w2.heap.size w2 v2) := below_next HBW1.out hbv
          clear hbv
          go_wp2_with fail
          refine Calls.mono (HNU.out _ _ (below_next HB2.out HBW2.out)) ?_
          rintro e v3 ⟨rfl, hbv⟩
          have HBW3 : Hid (Below w2.heap.size w2 v3) := below_next HBW2.out hbv
          clear hbv
          go_wp2
          go_roundw
          case rel => exact ⟨k + 1, by omega, by go_num, HBW3.out⟩
          case measure => simp [intOf]; omega
      · have q1d : decide (-9223372036854775808 < x.1) = false := decide_eq_false q1
        by_cases q2 : -9223372036854775808 < x.2
        · have q2d : decide (-9223372036854775808 < x.2) = true := decide_eq_true q2
          go_wp2_with fail
          refine Calls.mono (HNU.out _ _ (below_next HB2.out HBW.out)) ?_
          rintro e v1 ⟨rfl, hbv⟩
          have HBW1 : Hid (Below w2.heap.size w2 v1) := below_next HBW.out hbv
          clear hbv
          clear hc0 hc1
          go_wp2_with fail
          refine Calls.mono (HNU.out _ _ (below_next HB2.out HBW1.out)) ?_
          rintro e v2 ⟨rfl, hbv⟩
          have HBW2 : Hid (Below w2.heap.size w2 v2) := below_next HBW1.out hbv
          clear hbv
          go_wp2_with fail
          refine Calls.mono (HNU.out _ _ (below_next HB2.out HBW2.out)) ?_
          rintro e v3 ⟨rfl, hbv⟩
          have HBW3 : Hid (Below w2.heap.size w2 v3) := below_next HBW2.out hbv
          clear hbv
          go_wp2
          go_roundw
          case rel => exact ⟨k + 1, by omega, by go_num, HBW3.out⟩
          case measure => simp [intOf]; omega
        · have q2d : decide (-9223372036854775808 < x.2) = false := decide_eq_false q2
          go_wp2_with fail
          refine Calls.mono (HNU.out _ _ (below_next HB2.out HBW.out)) ?_
          rintro e v1 ⟨rfl, hbv⟩
          have HBW1 : Hid (Below w2.heap.size w2 v1) := below_next HBW.out hbv
          clear hbv
          clear hc0 hc1
          go_wp2_with fail
          refine Calls.mono (HNU.out _ _ (below_next HB2.out HBW1.out)) ?_
          rintro e v2 ⟨rfl, hbv⟩
          have HBW2 : Hid (Below w2.heap.size w2 v2) := below_next HBW1.out hbv
          clear hbv
          go_wp2
          go_roundw
          case rel => exact ⟨k + 1, by omega, by go_num, HBW2.out⟩
          case measure => simp [intOf]; omega
    · have hlti : ¬ (k : Int) < (n : Int) := by omega
      have hMw : IntKind.i64.wrap ((M : Int) - 1) = (M : Int) - 1 := by have := HNM.out; rw [IntKind.wrap_i64]; omega
      go_wp2_with fail
      go_loopw [14, 15] (fun tv j wq => ∃ (p : Nat) (T : List Rg) (a : Option Addr) (c : Nat), p ≤ M ∧ j = .int .i64 ((p : Int) - 1) ∧ tv = .slice a T.length c ∧ OwnR wq w2.heap.size (.slice a T.length c) T ∧ (∀ i, hasR T i ↔ hasR (m.drop p) i) ∧ T.length + p = M ∧ Below w2.heap.size w2 wq) (fun _ j _ => (intOf j + 1).toNat)
      case atStart => exact ⟨M, [], none, 0, Nat.le_refl _, rfl, rfl, OwnR.nil _ _, fun i => by rw [HNM.out.2.1, List.drop_length], by simp, HBW.out⟩
      case round =>
        obtain ⟨p, T, a, c, hp, rfl, rfl, hrow, hmem, hTp, hbw⟩ := hrel
        obtain ⟨tl, htl⟩ : ∃ t, t = T.length := ⟨_, rfl⟩
        have HROW : Hid (OwnR wr w2.heap.size (.slice a tl c) T) := by rw [htl]; exact hrow
        have HT : Hid (tl = T.length ∧ (∀ i, hasR T i ↔ hasR (m.drop p) i) ∧ tl + p = M) := ⟨htl, hmem, by rw [htl]; exact hTp⟩
        have HBQ : Hid (Below w2.heap.size w2 wr) := hbw
        rw [← htl]
        clear hrow hmem hTp hbw htl
        by_cases hp0 : 0 < p
        · obtain ⟨q, hq⟩ : ∃ q : Nat, q + 1 = p := ⟨p - 1, by omega⟩
          have hqI : (p : Int) - 1 = (q : Int) := by omega
          have hqw : IntKind.i64.wrap ((q : Int) - 1) = (q : Int) - 1 := by have := HNM.out; rw [IntKind.wrap_i64]; omega
          have hq0 : (0 : Int) ≤ (q : Int) := by omega
          have hqM : q < M := by omega
          have hqMI : (q : Int) < (M : Int) := by omega
          have hq1 : q < m.length := by rw [← HNM.out.2.1]; exact hqM
          obtain ⟨b, o, hmae, hc0, hc1⟩ := HM.out wr (below_next HB2.out HBQ.out) q hq1
          obtain ⟨x, hx9⟩ : ∃ x : Rg, x = m[q] := ⟨_, rfl⟩
          have HRR : Hid (wr.rangeAt b (o + q * 2) [.int .i64 x.1, .int .i64 x.2]) := by
            have h9 := (HM.out wr (below_next HB2.out HBQ.out))
            rw [hmae] at h9
            rw [hx9]
            exact h9.range q hq1
          have HMX : Hid (∀ i, hasR (T ++ [x]) i ↔ hasR (m.drop q) i) := fun i => by
            rw [hasR_snoc, HT.out.2.1 i, hasR_drop hq1, ← hx9, ← hq]
            exact Or.comm
          rw [hqI]
          subst hmae
          clear hc0 hc1 hx9
          go_wp2_with (first
            | (refine wpList_load_g (by rfl) 28 _ rfl b (o + q * 2) (by rfl) [.int .i64 x.1, .int .i64 x.2] _ HRR.out Tryd.underlying28 rfl (by rw [(zero_of_info info_rg).2]; rfl) ?_)
            | (refine wp_appR1 rfl _ _ rfl w2.heap.size (.slice a tl c) T tl HT.out.1 x wr.heap.size rfl (OwnR.below HROW.out (al (Below.refl _ _) _)) rfl (heap_alloc_new wr _) (by have := HT.out; have := HNM.out; omega) (by have := HBQ.out.size; simp; omega) ?_; intro g7 cap7 w7 hrow7 hg7 hwh7; have HROW7 : Hid (OwnR w7 w2.heap.size (.slice (some ⟨g7, 0, none⟩) (tl + 1) cap7) (T ++ [x])) := hrow7; have hob := own_blk (n := tl) (c := c) HROW.out.blk; have HB7 : Hid (Below w2.heap.size w2 w7) := below_gr (HBQ.out.alloc HBQ.out.size _) hg7 (fun r hr => (hob r hr).1); clear hrow7 hg7 hwh7 hob))
          go_roundw
          case rel =>
            have hlen : (T ++ [x]).length = tl + 1 := by rw [List.length_append, ← HT.out.1]; rfl
            refine ⟨q, T ++ [x], some ⟨g7, 0, none⟩, cap7, by omega, rfl, by rw [hlen], by rw [hlen]; exact HROW7.out, HMX.out, by rw [hlen]; have := HT.out; omega, HB7.out⟩
          case measure => first | (simp [intOf]; omega) | simp [intOf]
        · obtain rfl : p = 0 := by omega
          have HTM : Hid (∀ i, hasR T i ↔ hasR m i) := fun i => by have h9 := HT.out.2.1 i; rw [List.drop_zero] at h9; exact h9
          have HTL : Hid (tl = T.length ∧ tl = M) := ⟨HT.out.1, by have := HT.out; omega⟩
          go_wp2_with fail
          go_loopw [14, 16] (fun tv j wq => ∃ (k : Nat) (T : List Rg) (a : Option Addr) (c : Nat), k ≤ n ∧ j = .int .i64 (k : Int) ∧ tv = .slice a T.length c ∧ OwnR wq w2.heap.size (.slice a T.length c) T ∧ (∀ i, hasR T i ↔ hasR (m ++ l.take k) i) ∧ T.length ≤ M + 2 * k ∧ Below w2.heap.size w2 wq) (fun _ j _ => n - (intOf j).toNat)
          case atStart => exact ⟨0, T, a, c, Nat.zero_le _, rfl, by rw [← HTL.out.1], by rw [← HTL.out.1]; exact HROW.out, fun i => by rw [HTM.out i, List.take_zero, List.append_nil], by have := HTL.out; omega, HBQ.out⟩
          case round =>
            clear HROW HTM HTL HT HBQ HBW hlti
            obtain ⟨k, T, a, c, hk, rfl, rfl, hrow, hmem, hTl, hbw⟩ := hrel
            obtain ⟨tl, htl⟩ : ∃ t, t = T.length := ⟨_, rfl⟩
            have HROW : Hid (OwnR wr w2.heap.size (.slice a tl c) T) := by rw [htl]; exact hrow
            have HT : Hid (tl = T.length ∧ (∀ i, hasR T i ↔ hasR (m ++ l.take k) i) ∧ tl ≤ M + 2 * k) := ⟨htl, hmem, by rw [htl]; exact hTl⟩
            have HBQ : Hid (Below w2.heap.size w2 wr) := hbw
            have hkw : IntKind.i64.wrap ((k : Int) + 1) = ((k + 1 : Nat) : Int) := by have := HNM.out; rw [IntKind.wrap_i64]; omega
            rw [← htl]
            clear hrow hmem hTl htl
            by_cases hlt : k < n
            · have hk1 : k < l.length := by rw [← HNM.out.1]; exact hlt
              have hlti : (k : Int) < (n : Int) := by omega
              have hk0 : (0 : Int) ≤ (k : Int) := by omega
              obtain ⟨b, o, hlae, -, -⟩ := HL.out wr (below_next HB2.out HBQ.out) k hk1
              obtain ⟨x, hx9⟩ : ∃ x : Rg, x = l[k] := ⟨_, rfl⟩
              have HRL : Hid (∀ u, Below w2.heap.size w2 u → u.rangeAt b (o + k * 2) [.int .i64 x.1, .int .i64 x.2]) := fun u hu => by
                have h9 := HL.out u (below_next HB2.out hu)
                rw [hlae] at h9
                rw [hx9]
                exact h9.range k hk1
              have hc0 : ∀ u, Below w2.heap.size w2 u → u.cell? ⟨b, o + k * 2, none⟩ = some (.int .i64 x.1) := fun u hu => HRL.out u hu 0 _ rfl
              have hc1 : ∀ u, Below w2.heap.size w2 u → u.cell? ⟨b, o + k * 2 + 1, none⟩ = some (.int .i64 x.2) := fun u hu => HRL.out u hu 1 _ rfl
              have hld : ∀ u, Below w2.heap.size w2 u → (Instr.loadAt 28 (.pointer (some ⟨b, o + k * 2, none⟩))).run Tryd.prog u = .ok (.agg #[.int .i64 x.1, .int .i64 x.2]) u := fun u hu => load_rg u _ _ x.1 x.2 (HRL.out u hu)
              have HTX : Hid (∀ T2 : List Rg, (∀ i, hasR T2 i ↔ (x.1 ≤ i ∧ i < x.2)) → ∀ i, hasR (T ++ T2) i ↔ hasR (m ++ l.take (k + 1)) i) := fun T2 h2 i => by
                rw [hasR_app, h2 i, HT.out.2.1 i, hasR_app, hasR_app, hasR_take hk1, ← hx9, or_assoc]
              subst hlae
              clear hx9
              have hS1 : ∀ ob, Below w2.heap.size w2 (wr.alloc ob).drew := fun ob => (hbw.alloc hbw.size ob).drew
              have hd0 := hc0 wr HBQ.out
              have hd1 := hc1 wr HBQ.out
              have APP : Hid (∀ (y z : Rg) (g7 cap7 : Nat) (w7 : World) (W6 : World), Below wr.heap.size wr W6 → OwnR w7 w2.heap.size (.slice (some ⟨g7, 0, none⟩) (tl + 2) cap7) (T ++ [y, z]) → W6.grownBy w7 (Value.slice a tl c).ownBlock → Below w2.heap.size w2 w7) := fun y z g7 cap7 w7 W6 h6 _ hg7 => below_gr (below_next HBQ.out h6) hg7 (fun r hr => (own_blk (n := tl) (c := c) HROW.out.blk r hr).1)
              by_cases hcut : x.1 < ct ∧ ct < x.2
              · obtain ⟨u1, u2⟩ := hcut
                have u1d : decide (x.1 < ct) = true := decide_eq_true u1
                have u2d : decide (ct < x.2) = true := decide_eq_true u2
                have HM2 : Hid (∀ i, hasR [((ct, x.2) : Rg), (x.1, ct)] i ↔ (x.1 ≤ i ∧ i < x.2)) := fun i => by
                  rw [hasR_cons, hasR_one]
                  simp only
                  omega
                go_wp2_with fail
                clear hd0 hd1
                refine wp_region_noPanic ?_
                refine wp_region_held_drew (S := (fun u => Below w2.heap.size w2 u)) (by kernel_rfl) (by with_reducible first | exact hbw.drew | exact hS1 _ | exact hS7 | assumption) (fun hHeld => ?_)
                refine take_at (i := 0) 119 (v := ?_) rfl rfl (by kernel_rfl) (by kernel_rfl) (by kernel_rfl) (fun _ _ _ h => h) (by rfl) ?_ hHeld ?_
                rotate_left
                · (intro w hSw; (try dsimp only at hSw); go_simp; try with_reducible rfl)
                simp only [Act.put, List.setIfInBounds_toArray, List.set_cons_zero, List.set_cons_succ]
                refine take_at (i := 1) 120 (v := ?_) rfl rfl (by kernel_rfl) (by kernel_rfl) (by kernel_rfl) (fun _ _ _ h => h) (by rfl) ?_ hHeld ?_
                rotate_left
                · (intro w hSw; (try dsimp only at hSw); go_simp; try with_reducible rfl)
                simp only [Act.put, List.setIfInBounds_toArray, List.set_cons_zero, List.set_cons_succ]
                refine take_at (i := 2) 121 (v := ?_) rfl rfl (by kernel_rfl) (by kernel_rfl) (by kernel_rfl) (fun _ _ _ h => h) (by rfl) ?_ hHeld ?_
                rotate_left
                · (intro w hSw; (try dsimp only at hSw); go_simp; try with_reducible rfl)
                simp only [Act.put, List.setIfInBounds_toArray, List.set_cons_zero, List.set_cons_succ]
                refine take_at (i := 3) 122 (v := ?_) rfl rfl (by kernel_rfl) (by kernel_rfl) (by kernel_rfl) (fun _ _ _ h => h) (by rfl) ?_ hHeld ?_
                rotate_left
                · (intro w hSw; (try dsimp only at hSw); go_simp; try with_reducible rfl)
                simp only [Act.put, List.setIfInBounds_toArray, List.set_cons_zero, List.set_cons_succ]
                refine take_at (i := 4) 123 (v := ?_) rfl rfl (by kernel_rfl) (by kernel_rfl) (by kernel_rfl) (fun _ _ _ h => h) (by rfl) ?_ hHeld ?_
                rotate_left
                · (intro w hSw; (try dsimp only at hSw); go_simp; try with_reducible rfl)
                simp only [Act.put, List.setIfInBounds_toArray, List.set_cons_zero, List.set_cons_succ]
                refine take_at (i := 5) 124 (v := ?_) rfl rfl (by kernel_rfl) (by kernel_rfl) (by kernel_rfl) (fun _ _ _ h => h) (by rfl) ?_ hHeld ?_
                rotate_left
                · (intro w hSw; (try dsimp only at hSw); go_simp; try with_reducible rfl)
                simp only [Act.put, List.setIfInBounds_toArray, List.set_cons_zero, List.set_cons_succ]
                refine take_at (i := 6) 125 (v := ?_) rfl rfl (by kernel_rfl) (by kernel_rfl) (by kernel_rfl) (fun _ _ _ h => h) (by rfl) ?_ hHeld ?_
                rotate_left
                · (intro w hSw; have h9 := hc1 w hSw; (try dsimp only at hSw); go_simp; try with_reducible rfl)
                simp only [Act.put, List.setIfInBounds_toArray, List.set_cons_zero, List.set_cons_succ]
                refine take_at (i := 7) 126 (v := ?_) rfl rfl (by kernel_rfl) (by kernel_rfl) (by kernel_rfl) (fun _ _ _ h => h) (by rfl) ?_ hHeld ?_
                rotate_left
                · (intro w hSw; (try dsimp only at hSw); go_simp; try with_reducible rfl)
                simp only [Act.put, List.setIfInBounds_toArray, List.set_cons_zero, List.set_cons_succ]
                refine take_at (i := 8) 127 (v := ?_) rfl rfl (by kernel_rfl) (by kernel_rfl) (by kernel_rfl) (fun _ _ _ h => h) (by rfl) ?_ hHeld ?_
                rotate_left
                · (intro w hSw; (try dsimp only at hSw); go_simp; try with_reducible rfl)
                simp only [Act.put, List.setIfInBounds_toArray, List.set_cons_zero, List.set_cons_succ]
                refine take_at (i := 9) 128 (v := ?_) rfl rfl (by kernel_rfl) (by kernel_rfl) (by kernel_rfl) (fun _ _ _ h => h) (by rfl) ?_ hHeld ?_
                rotate_left
                · (intro w hSw; (try dsimp only at hSw); go_simp; try with_reducible rfl)
                simp only [Act.put, List.setIfInBounds_toArray, List.set_cons_zero, List.set_cons_succ]
                refine take_at (i := 10) 129 (v := ?_) rfl rfl (by kernel_rfl) (by kernel_rfl) (by kernel_rfl) (fun _ _ _ h => h) (by rfl) ?_ hHeld ?_
                rotate_left
                · (intro w hSw; (try dsimp only at hSw); go_simp; try with_reducible rfl)
                simp only [Act.put, List.setIfInBounds_toArray, List.set_cons_zero, List.set_cons_succ]
                refine take_at (i := 11) 130 (v := ?_) rfl rfl (by kernel_rfl) (by kernel_rfl) (by kernel_rfl) (fun _ _ _ h => h) (by rfl) ?_ hHeld ?_
                rotate_left
                · (intro w hSw; (try dsimp only at hSw); go_simp; try with_reducible rfl)
                simp only [Act.put, List.setIfInBounds_toArray, List.set_cons_zero, List.set_cons_succ]
                refine take_at (i := 12) 131 (v := ?_) rfl rfl (by kernel_rfl) (by kernel_rfl) (by kernel_rfl) (fun _ _ _ h => h) (by rfl) ?_ hHeld ?_
                rotate_left
                · (intro w hSw; have h9 := hc0 w hSw; (try dsimp only at hSw); go_simp; try with_reducible rfl)
                simp only [Act.put, List.setIfInBounds_toArray, List.set_cons_zero, List.set_cons_succ]
                refine take_at (i := 13) 132 (v := ?_) rfl rfl (by kernel_rfl) (by kernel_rfl) (by kernel_rfl) (fun _ _ _ h => h) (by rfl) ?_ hHeld ?_
                rotate_left
                · (intro w hSw; (try dsimp only at hSw); go_simp; try with_reducible rfl)
                simp only [Act.put, List.setIfInBounds_toArray, List.set_cons_zero, List.set_cons_succ]
                refine take_at (i := 14) 133 (v := ?_) rfl rfl (by kernel_rfl) (by kernel_rfl) (by kernel_rfl) (fun _ _ _ h => h) (by rfl) ?_ hHeld ?_
                rotate_left
                · (intro w hSw; (try dsimp only at hSw); go_simp; try with_reducible rfl)
                simp only [Act.put, List.setIfInBounds_toArray, List.set_cons_zero, List.set_cons_succ]
                refine run_at (i := 15) rfl (by kernel_rfl) (by rfl) (fun K hK => ?_)
                simp only [List.getElem_toArray, List.getElem_cons_zero, List.getElem_cons_succ]
                go_simp
                go_wp2_with fail
                refine hK.out _ _ (by with_reducible first | exact hbw.drew | exact hS1 _ | exact hS7 | assumption) ?_
                clear hK K
                intro hHeld2
                clear hHeld
                have hHeld := hHeld2
                clear hHeld2
                try simp only [Act.put, List.setIfInBounds_toArray, List.set_cons_zero, List.set_cons_succ]
                refine run_at (i := 16) rfl (by kernel_rfl) (by rfl) (fun K hK => ?_)
                simp only [List.getElem_toArray, List.getElem_cons_zero, List.getElem_cons_succ]
                (refine wpo_appR2 _ _ rfl w2.heap.size (.slice a tl c) T tl HT.out.1 (ct, x.2) (x.1, ct) wr.heap.size rfl (OwnR.below HROW.out (al (Below.refl _ _) _).drew) rfl (heap_alloc_new wr _) (by have := HT.out; have := HNM.out; omega) (by have := HBQ.out.size; simp; omega) ?_; intro g7 cap7 w7 hrow7 hg7 hwh7; have HROW7 : Hid (OwnR w7 w2.heap.size (.slice (some ⟨g7, 0, none⟩) (tl + 2) cap7) (T ++ [((ct, x.2) : Rg), (x.1, ct)])) := hrow7; have hS7 : Below w2.heap.size w2 w7 := APP.out _ _ g7 cap7 w7 _ (al (Below.refl _ _) _).drew hrow7 hg7; clear hrow7 hg7 hwh7)
                refine hK.out _ _ (by with_reducible first | exact hbw.drew | exact hS1 _ | exact hS7 | assumption) ?_
                clear hK K
                intro hHeld2
                clear hHeld
                have hHeld := hHeld2
                clear hHeld2
                try simp only [Act.put, List.setIfInBounds_toArray, List.set_cons_zero, List.set_cons_succ]
                refine take_at (i := 17) 14 (v := ?_) rfl rfl (by kernel_rfl) (by kernel_rfl) (by kernel_rfl) (fun _ _ _ h => h) (by rfl) ?_ hHeld ?_
                rotate_left
                · (intro w hSw; (try dsimp only at hSw); go_simp; try with_reducible rfl)
                simp only [Act.put, List.setIfInBounds_toArray, List.set_cons_zero, List.set_cons_succ]
                refine wpAnyH_done (by kernel_rfl) ?_ _
                refine NoPanic.normal ?_
                go_wp2
                go_roundw
                case rel =>
                  iterate 52 (apply Exists.intro)
                  refine And.intro ?_ rfl
                  have hlen : (T ++ [((ct, x.2) : Rg), (x.1, ct)]).length = tl + 2 := by rw [List.length_append, ← HT.out.1]; rfl
                  exact ⟨k + 1, T ++ [((ct, x.2) : Rg), (x.1, ct)], some ⟨g7, 0, none⟩, cap7, by omega, by go_num, by rw [hlen], by rw [hlen]; exact HROW7.out, HTX.out _ HM2.out, by rw [hlen]; have := HT.out; omega, hS7⟩
                case measure => simp [intOf]; omega
              · have HM2 : Hid (∀ i, hasR [x, x] i ↔ (x.1 ≤ i ∧ i < x.2)) := fun i => by
                  rw [hasR_cons, hasR_one]
                  omega
                by_cases u1 : x.1 < ct
                · have u1d : decide (x.1 < ct) = true := decide_eq_true u1
                  have u2 : ¬ ct < x.2 := fun h => hcut ⟨u1, h⟩
                  have u2d : decide (ct < x.2) = false := decide_eq_false u2
                  go_wp2_with fail
                  clear hd0 hd1
                  refine wp_region_noPanic ?_
                  refine wp_region_held_drew (S := (fun u => Below w2.heap.size w2 u)) (by kernel_rfl) (by with_reducible first | exact hbw.drew | exact hS1 _ | exact hS7 | assumption) (fun hHeld => ?_)
                  refine take_at (i := 0) 136 (v := ?_) rfl rfl (by kernel_rfl) (by kernel_rfl) (by kernel_rfl) (fun _ _ _ h => h) (by rfl) ?_ hHeld ?_
                  rotate_left
                  · (intro w hSw; (try dsimp only at hSw); go_simp; try with_reducible rfl)
                  simp only [Act.put, List.setIfInBounds_toArray, List.set_cons_zero, List.set_cons_succ]
                  refine take_at (i := 1) 137 (v := ?_) rfl rfl (by kernel_rfl) (by kernel_rfl) (by kernel_rfl) (fun _ _ _ h => h) (by rfl) ?_ hHeld ?_
                  rotate_left
                  · (intro w hSw; (try dsimp only at hSw); go_simp; try with_reducible rfl)
                  simp only [Act.put, List.setIfInBounds_toArray, List.set_cons_zero, List.set_cons_succ]
                  refine take_at (i := 2) 138 (v := ?_) rfl rfl (by kernel_rfl) (by kernel_rfl) (by kernel_rfl) (fun _ _ _ h => h) (by rfl) ?_ hHeld ?_
                  rotate_left
                  · (intro w hSw; (try dsimp only at hSw); go_simp; try with_reducible rfl)
                  simp only [Act.put, List.setIfInBounds_toArray, List.set_cons_zero, List.set_cons_succ]
                  refine take_at (i := 3) 139 (v := ?_) rfl rfl (by kernel_rfl) (by kernel_rfl) (by kernel_rfl) (fun _ _ _ h => h) (by rfl) ?_ hHeld ?_
                  rotate_left
                  · (intro w hSw; (try dsimp only at hSw); go_simp; try with_reducible rfl)
                  simp only [Act.put, List.setIfInBounds_toArray, List.set_cons_zero, List.set_cons_succ]
                  refine take_at (i := 4) 140 (v := .agg #[.int .i64 x.1, .int .i64 x.2]) rfl rfl (by kernel_rfl) (by kernel_rfl) (by kernel_rfl) (fun _ _ _ h => h) (by rfl) ?_ hHeld ?_
                  · (intro w hSw; refine exec_load (by rfl) ?_; exact hld w hSw)
                  simp only [Act.put, List.setIfInBounds_toArray, List.set_cons_zero, List.set_cons_succ]
                  refine take_at (i := 5) 141 (v := ?_) rfl rfl (by kernel_rfl) (by kernel_rfl) (by kernel_rfl) (fun _ _ _ h => h) (by rfl) ?_ hHeld ?_
                  rotate_left
                  · (intro w hSw; (try dsimp only at hSw); go_simp; try with_reducible rfl)
                  simp only [Act.put, List.setIfInBounds_toArray, List.set_cons_zero, List.set_cons_succ]
                  refine take_at (i := 6) 142 (v := ?_) rfl rfl (by kernel_rfl) (by kernel_rfl) (by kernel_rfl) (fun _ _ _ h => h) (by rfl) ?_ hHeld ?_
                  rotate_left
                  · (intro w hSw; (try dsimp only at hSw); go_simp; try with_reducible rfl)
                  simp only [Act.put, List.setIfInBounds_toArray, List.set_cons_zero, List.set_cons_succ]
                  refine take_at (i := 7) 143 (v := ?_) rfl rfl (by kernel_rfl) (by kernel_rfl) (by kernel_rfl) (fun _ _ _ h => h) (by rfl) ?_ hHeld ?_
                  rotate_left
                  · (intro w hSw; (try dsimp only at hSw); go_simp; try with_reducible rfl)
                  simp only [Act.put, List.setIfInBounds_toArray, List.set_cons_zero, List.set_cons_succ]
                  refine take_at (i := 8) 144 (v := .agg #[.int .i64 x.1, .int .i64 x.2]) rfl rfl (by kernel_rfl) (by kernel_rfl) (by kernel_rfl) (fun _ _ _ h => h) (by rfl) ?_ hHeld ?_
                  · (intro w hSw; refine exec_load (by rfl) ?_; exact hld w hSw)
                  simp only [Act.put, List.setIfInBounds_toArray, List.set_cons_zero, List.set_cons_succ]
                  refine run_at (i := 9) rfl (by kernel_rfl) (by rfl) (fun K hK => ?_)
                  simp only [List.getElem_toArray, List.getElem_cons_zero, List.getElem_cons_succ]
                  go_simp
                  go_wp2_with fail
                  refine hK.out _ _ (by with_reducible first | exact hbw.drew | exact hS1 _ | exact hS7 | assumption) ?_
                  clear hK K
                  intro hHeld2
                  clear hHeld
                  have hHeld := hHeld2
                  clear hHeld2
                  try simp only [Act.put, List.setIfInBounds_toArray, List.set_cons_zero, List.set_cons_succ]
                  refine run_at (i := 10) rfl (by kernel_rfl) (by rfl) (fun K hK => ?_)
                  simp only [List.getElem_toArray, List.getElem_cons_zero, List.getElem_cons_succ]
                  (refine wpo_appR2 _ _ rfl w2.heap.size (.slice a tl c) T tl HT.out.1 x x wr.heap.size rfl (OwnR.below HROW.out (al (Below.refl _ _) _).drew) rfl (heap_alloc_new wr _) (by have := HT.out; have := HNM.out; omega) (by have := HBQ.out.size; simp; omega) ?_; intro g7 cap7 w7 hrow7 hg7 hwh7; have HROW7 : Hid (OwnR w7 w2.heap.size (.slice (some ⟨g7, 0, none⟩) (tl + 2) cap7) (T ++ [x, x])) := hrow7; have hS7 : Below w2.heap.size w2 w7 := APP.out _ _ g7 cap7 w7 _ (al (Below.refl _ _) _).drew hrow7 hg7; clear hrow7 hg7 hwh7)
                  refine hK.out _ _ (by with_reducible first | exact hbw.drew | exact hS1 _ | exact hS7 | assumption) ?_
                  clear hK K
                  intro hHeld2
                  clear hHeld
                  have hHeld := hHeld2
                  clear hHeld2
                  try simp only [Act.put, List.setIfInBounds_toArray, List.set_cons_zero, List.set_cons_succ]
                  refine take_at (i := 11) 14 (v := ?_) rfl rfl (by kernel_rfl) (by kernel_rfl) (by kernel_rfl) (fun _ _ _ h => h) (by rfl) ?_ hHeld ?_
                  rotate_left
                  · (intro w hSw; (try dsimp only at hSw); go_simp; try with_reducible rfl)
                  simp only [Act.put, List.setIfInBounds_toArray, List.set_cons_zero, List.set_cons_succ]
                  refine wpAnyH_done (by kernel_rfl) ?_ _
                  refine NoPanic.normal ?_
                  go_wp2
                  go_roundw
                  case rel =>
                    iterate 52 (apply Exists.intro)
                    refine And.intro ?_ rfl
                    have hlen : (T ++ [x, x]).length = tl + 2 := by rw [List.length_append, ← HT.out.1]; rfl
                    exact ⟨k + 1, T ++ [x, x], some ⟨g7, 0, none⟩, cap7, by omega, by go_num, by rw [hlen], by rw [hlen]; exact HROW7.out, HTX.out _ HM2.out, by rw [hlen]; have := HT.out; omega, hS7⟩
                  case measure => simp [intOf]; omega
                · have u1d : decide (x.1 < ct) = false := decide_eq_false u1
                  go_wp2_with fail
                  clear hd0 hd1
                  refine wp_region_noPanic ?_
                  refine wp_region_held_drew (S := (fun u => Below w2.heap.size w2 u)) (by kernel_rfl) (by with_reducible first | exact hbw.drew | exact hS1 _ | exact hS7 | assumption) (fun hHeld => ?_)
                  refine take_at (i := 0) 136 (v := ?_) rfl rfl (by kernel_rfl) (by kernel_rfl) (by kernel_rfl) (fun _ _ _ h => h) (by rfl) ?_ hHeld ?_
                  rotate_left
                  · (intro w hSw; (try dsimp only at hSw); go_simp; try with_reducible rfl)
                  simp only [Act.put, List.setIfInBounds_toArray, List.set_cons_zero, List.set_cons_succ]
                  refine take_at (i := 1) 137 (v := ?_) rfl rfl (by kernel_rfl) (by kernel_rfl) (by kernel_rfl) (fun _ _ _ h => h) (by rfl) ?_ hHeld ?_
                  rotate_left
                  · (intro w hSw; (try dsimp only at hSw); go_simp; try with_reducible rfl)
                  simp only [Act.put, List.setIfInBounds_toArray, List.set_cons_zero, List.set_cons_succ]
                  refine take_at (i := 2) 138 (v := ?_) rfl rfl (by kernel_rfl) (by kernel_rfl) (by kernel_rfl) (fun _ _ _ h => h) (by rfl) ?_ hHeld ?_
                  rotate_left
                  · (intro w hSw; (try dsimp only at hSw); go_simp; try with_reducible rfl)
                  simp only [Act.put, List.setIfInBounds_toArray, List.set_cons_zero, List.set_cons_succ]
                  refine take_at (i := 3) 139 (v := ?_) rfl rfl (by kernel_rfl) (by kernel_rfl) (by kernel_rfl) (fun _ _ _ h => h) (by rfl) ?_ hHeld ?_
                  rotate_left
                  · (intro w hSw; (try dsimp only at hSw); go_simp; try with_reducible rfl)
                  simp only [Act.put, List.setIfInBounds_toArray, List.set_cons_zero, List.set_cons_succ]
                  refine take_at (i := 4) 140 (v := .agg #[.int .i64 x.1, .int .i64 x.2]) rfl rfl (by kernel_rfl) (by kernel_rfl) (by kernel_rfl) (fun _ _ _ h => h) (by rfl) ?_ hHeld ?_
                  · (intro w hSw; refine exec_load (by rfl) ?_; exact hld w hSw)
                  simp only [Act.put, List.setIfInBounds_toArray, List.set_cons_zero, List.set_cons_succ]
                  refine take_at (i := 5) 141 (v := ?_) rfl rfl (by kernel_rfl) (by kernel_rfl) (by kernel_rfl) (fun _ _ _ h => h) (by rfl) ?_ hHeld ?_
                  rotate_left
                  · (intro w hSw; (try dsimp only at hSw); go_simp; try with_reducible rfl)
                  simp only [Act.put, List.setIfInBounds_toArray, List.set_cons_zero, List.set_cons_succ]
                  refine take_at (i := 6) 142 (v := ?_) rfl rfl (by kernel_rfl) (by kernel_rfl) (by kernel_rfl) (fun _ _ _ h => h) (by rfl) ?_ hHeld ?_
                  rotate_left
                  · (intro w hSw; (try dsimp only at hSw); go_simp; try with_reducible rfl)
                  simp only [Act.put, List.setIfInBounds_toArray, List.set_cons_zero, List.set_cons_succ]
                  refine take_at (i := 7) 143 (v := ?_) rfl rfl (by kernel_rfl) (by kernel_rfl) (by kernel_rfl) (fun _ _ _ h => h) (by rfl) ?_ hHeld ?_
                  rotate_left
                  · (intro w hSw; (try dsimp only at hSw); go_simp; try with_reducible rfl)
                  simp only [Act.put, List.setIfInBounds_toArray, List.set_cons_zero, List.set_cons_succ]
                  refine take_at (i := 8) 144 (v := .agg #[.int .i64 x.1, .int .i64 x.2]) rfl rfl (by kernel_rfl) (by kernel_rfl) (by kernel_rfl) (fun _ _ _ h => h) (by rfl) ?_ hHeld ?_
                  · (intro w hSw; refine exec_load (by rfl) ?_; exact hld w hSw)
                  simp only [Act.put, List.setIfInBounds_toArray, List.set_cons_zero, List.set_cons_succ]
                  refine run_at (i := 9) rfl (by kernel_rfl) (by rfl) (fun K hK => ?_)
                  simp only [List.getElem_toArray, List.getElem_cons_zero, List.getElem_cons_succ]
                  go_simp
                  go_wp2_with fail
                  refine hK.out _ _ (by with_reducible first | exact hbw.drew | exact hS1 _ | exact hS7 | assumption) ?_
                  clear hK K
                  intro hHeld2
                  clear hHeld
                  have hHeld := hHeld2
                  clear hHeld2
                  try simp only [Act.put, List.setIfInBounds_toArray, List.set_cons_zero, List.set_cons_succ]
                  refine run_at (i := 10) rfl (by kernel_rfl) (by rfl) (fun K hK => ?_)
                  simp only [List.getElem_toArray, List.getElem_cons_zero, List.getElem_cons_succ]
                  (refine wpo_appR2 _ _ rfl w2.heap.size (.slice a tl c) T tl HT.out.1 x x wr.heap.size rfl (OwnR.below HROW.out (al (Below.refl _ _) _).drew) rfl (heap_alloc_new wr _) (by have := HT.out; have := HNM.out; omega) (by have := HBQ.out.size; simp; omega) ?_; intro g7 cap7 w7 hrow7 hg7 hwh7; have HROW7 : Hid (OwnR w7 w2.heap.size (.slice (some ⟨g7, 0, none⟩) (tl + 2) cap7) (T ++ [x, x])) := hrow7; have hS7 : Below w2.heap.size w2 w7 := APP.out _ _ g7 cap7 w7 _ (al (Below.refl _ _) _).drew hrow7 hg7; clear hrow7 hg7 hwh7)
                  refine hK.out _ _ (by with_reducible first | exact hbw.drew | exact hS1 _ | exact hS7 | assumption) ?_
                  clear hK K
                  intro hHeld2
                  clear hHeld
                  have hHeld := hHeld2
                  clear hHeld2
                  try simp only [Act.put, List.setIfInBounds_toArray, List.set_cons_zero, List.set_cons_succ]
                  refine take_at (i := 11) 14 (v := ?_) rfl rfl (by kernel_rfl) (by kernel_rfl) (by kernel_rfl) (fun _ _ _ h => h) (by rfl) ?_ hHeld ?_
                  rotate_left
                  · (intro w hSw; (try dsimp only at hSw); go_simp; try with_reducible rfl)
                  simp only [Act.put, List.setIfInBounds_toArray, List.set_cons_zero, List.set_cons_succ]
                  refine wpAnyH_done (by kernel_rfl) ?_ _
                  refine NoPanic.normal ?_
                  go_wp2
                  go_roundw
                  case rel =>
                    iterate 52 (apply Exists.intro)
                    refine And.intro ?_ rfl
                    have hlen : (T ++ [x, x]).length = tl + 2 := by rw [List.length_append, ← HT.out.1]; rfl
                    exact ⟨k + 1, T ++ [x, x], some ⟨g7, 0, none⟩, cap7, by omega, by go_num, by rw [hlen], by rw [hlen]; exact HROW7.out, HTX.out _ HM2.out, by rw [hlen]; have := HT.out; omega, hS7⟩
                  case measure => simp [intOf]; omega
            · have hlti : ¬ (k : Int) < (n : Int) := by omega
              have HTM : Hid (∀ i, hasR T i ↔ hasR (m ++ l) i) := fun i => by have h9 := HT.out.2.1 i; rw [List.take_of_length_le (by rw [← HNM.out.1]; omega)] at h9; exact h9
              have HTB : Hid (tl = T.length ∧ tl ≤ 4194304) := ⟨HT.out.1, by have := HT.out; have := HNM.out; omega⟩
              go_wp2_with fail
              refine Calls.mono (least_t a tl c T wr HTB.out.1 HROW.out.rdA.1 HROW.out.rdA.2.2.2 (by have := HTB.out; omega)) ?_
              intro e x1 h1
              obtain ⟨a5, k5, c5, o5, rfl, hk5, hr5, hn5, hl5, hm5, hle5, hb5⟩ := h1.four
              have HX1 : Hid (Below w2.heap.size w2 x1) := below_next HBQ.out hb5
              have HS : Hid _ := same_t a5 aa k5 ka c5 ca o5 A x1 hk5 HA.out.1 hr5 (HRA.out _ HX1.out) (by have := HTB.out; omega) (Lst.uniq hl5 HA.out.2.2.1 (fun i => by rw [hm5 i, HTM.out i, HA.out.2.2.2.1 i, hasR_app, hasR_app]; exact Or.comm))
              clear h1 hk5 hr5 hn5 hl5 hm5 hle5 hb5
              go_wp2_with fail
              refine Calls.mono HS.out ?_
              rintro e x2 ⟨rfl, hb⟩
              have HX2 : Hid (Below w2.heap.size w2 x2) := below_next HX1.out hb
              clear hb HS
              go_wp2_with fail
              refine Calls.mono (HU2.out _ (below_next HB2.out HX2.out)) ?_
              intro e x3 h1
              obtain ⟨a6, k6, c6, o6, rfl, hk5, hr5, hn5, hl5, hm5, hle5, hb5⟩ := h1.four
              have HX3 : Hid (Below w2.heap.size w2 x3) := below_next HX2.out hb5
              have HS : Hid _ := same_t a6 aa k6 ka c6 ca o6 A x3 hk5 HA.out.1 hr5 (HRA.out _ HX3.out) (by have := HNM.out; rw [List.length_append] at hle5; omega) (Lst.uniq hl5 HA.out.2.2.1 (fun i => by rw [hm5 i, HA.out.2.2.2.1 i, hasR_app, hasR_app]; exact Or.comm))
              clear h1 hk5 hr5 hn5 hl5 hm5 hle5 hb5
              go_wp2_with fail
              refine Calls.mono HS.out ?_
              rintro e x4 ⟨rfl, hb⟩
              have HX4 : Hid (Below w2.heap.size w2 x4) := below_next HX3.out hb
              clear hb HS
              go_wp2_with fail
              refine Calls.mono (union_t aa aa ka ka ca ca A A x4 HA.out.1 HA.out.1 (HRA.out _ HX4.out) (HRA.out _ HX4.out) (by have := HA.out; omega) HA.out.2.1 HA.out.2.1) ?_
              intro e x5 h1
              obtain ⟨a7, k7, c7, o7, rfl, hk5, hr5, hn5, hl5, hm5, hle5, hb5⟩ := h1.four
              have HX5 : Hid (Below w2.heap.size w2 x5) := below_next HX4.out hb5
              have HS : Hid _ := same_t a7 aa k7 ka c7 ca o7 A x5 hk5 HA.out.1 hr5 (HRA.out _ HX5.out) (by have := HA.out; rw [List.length_append, ← HA.out.1] at hle5; omega) (Lst.uniq hl5 HA.out.2.2.1 (fun i => by rw [hm5 i, hasR_app, or_self]))
              clear h1 hk5 hr5 hn5 hl5 hm5 hle5 hb5
              go_wp2_with fail
              refine Calls.mono HS.out ?_
              rintro e x6 ⟨rfl, hb⟩
              have HX6 : Hid (Below w2.heap.size w2 x6) := below_next HX5.out hb
              clear hb HS HROW HT HTM HTB
              go_wp2_with fail
              refine Calls.mono (HMI.out _ (below_next HB2.out HX6.out)) ?_
              intro e x7 h1
              obtain ⟨ga, kg, cg, G, rfl, hk5, hr5, hn5, hms5, hle5, hb5⟩ := h1.four
              have HX7 : Hid (Below w2.heap.size w2 x7) := below_next HX6.out hb5
              have HG : Hid (kg = G.length ∧ (ga = none → cg = 0) ∧ MissS l G nn ∧ kg ≤ 2097152) := ⟨hk5, hn5, hms5, by have := HNM.out; omega⟩
              have HRG : Hid (∀ u, Below x7.heap.size x7 u → RdR u ga G) := fun u hu => hr5.below hu
              clear h1 hk5 hr5 hn5 hms5 hle5 hb5
              go_wp2_with fail
              refine Calls.mono (missing_t ga kg cg G nn x7 HG.out.1 (HRG.out _ (Below.refl _ _)) HG.out.2.1 (by have := HG.out; omega)) ?_
              intro e x8 h1
              obtain ⟨ta, kt, cu, Th, rfl, hk5, hr5, hn5, hms5, hle5, hb5⟩ := h1.four
              have HX8 : Hid (Below x7.heap.size x7 x8) := hb5
              have HTH : Hid (kt = Th.length ∧ (ta = none → cu = 0) ∧ MissS G Th nn ∧ kt ≤ 2097153) := ⟨hk5, hn5, hms5, by have := HG.out; omega⟩
              have HRT : Hid (∀ u, Below x8.heap.size x8 u → RdR u ta Th) := fun u hu => hr5.below hu
              clear h1 hk5 hr5 hn5 hms5 hle5 hb5
              go_wp2_with fail
              refine Calls.mono (union_t ga ta kg kt cg cu G Th x8 HG.out.1 HTH.out.1 (HRG.out _ HX8.out) (HRT.out _ (Below.refl _ _)) (by have := HG.out; have := HTH.out; omega) HG.out.2.1 HTH.out.2.1) ?_
              intro e x9 h1
              obtain ⟨ha, kh, ch, H9, rfl, hk5, hr5, hn5, hl5, hm5, hle5, hb5⟩ := h1.four
              have HX9 : Hid (Below x8.heap.size x8 x9) := hb5
              have HWH : Hid (kh = H9.length ∧ Lst H9 ∧ (∀ i, hasR H9 i ↔ hasR (G ++ Th) i) ∧ kh ≤ 4194307) := ⟨hk5, hl5, hm5, by have := HG.out; have := HTH.out; rw [List.length_append] at hle5; omega⟩
              have HRH : Hid (∀ u, Below x9.heap.size x9 u → RdR u ha H9) := fun u hu => hr5.below hu
              clear h1 hk5 hr5 hn5 hl5 hm5 hle5 hb5
              by_cases hn1 : nn < 1
              · have hn1d : decide (nn < 1) = true := decide_eq_true hn1
                obtain rfl : kg = 0 := by rw [HG.out.1, HG.out.2.2.1.1.none (fun i h9 => by have := (HG.out.2.2.1.2 i).1 h9; omega)]; rfl
                obtain rfl : kt = 0 := by rw [HTH.out.1, HTH.out.2.2.1.1.none (fun i h9 => by have := (HTH.out.2.2.1.2 i).1 h9; omega)]; rfl
                go_wp2
                go_ret
                exact ⟨rfl, below_next HB2.out (below_next HX7.out (below_next HX8.out HX9.out))⟩
              · have hn1d : decide (nn < 1) = false := decide_eq_false hn1
                have HTL : Hid (∀ i, hasR Th i → hasR l i ∧ 0 ≤ i ∧ i < nn) := fun i hi => by
                  obtain ⟨h1, h2, h3⟩ := (HTH.out.2.2.1.2 i).1 hi
                  refine ⟨?_, h1, h2⟩
                  by_cases h9 : hasR l i
                  · exact h9
                  · exact absurd ((HG.out.2.2.1.2 i).2 ⟨h1, h2, h9⟩) h3
                go_wp2_with fail
                go_loopw [20] (fun j wq => ∃ k : Nat, k ≤ kt ∧ j = .int .i64 (k : Int) ∧ Below x9.heap.size x9 wq) (fun j _ => kt - (intOf j).toNat)
                case atStart => exact ⟨0, Nat.zero_le _, rfl, Below.refl _ _⟩
                case round =>
                  obtain ⟨k, hk, rfl, hbw⟩ := hrel
                  have HBW : Hid (Below x9.heap.size x9 wr) := hbw
                  have HBA : Hid (Below w.heap.size w wr) := below_next HB2.out (below_next HX7.out (below_next HX8.out (below_next HX9.out hbw)))
                  have hkw : IntKind.i64.wrap ((k : Int) + 1) = ((k + 1 : Nat) : Int) := by have := HTH.out; rw [IntKind.wrap_i64]; omega
                  clear hbw
                  by_cases hlt : k < kt
                  · have hk1 : k < Th.length := by rw [← HTH.out.1]; exact hlt
                    have hlti : (k : Int) < (kt : Int) := by omega
                    have hk0 : (0 : Int) ≤ (k : Int) := by omega
                    obtain ⟨b, o, htae, hc0, hc1⟩ := HRT.out wr (below_next HX9.out HBW.out) k hk1
                    obtain ⟨x, hx9⟩ : ∃ x : Rg, x = Th[k] := ⟨_, rfl⟩
                    have hxm := HTH.out.2.2.1.1.mem_fst (List.getElem_mem hk1)
                    rw [← hx9] at hc0 hc1 hxm
                    have HX : Hid (hasR l x.1 ∧ hasR l (x.2 - 1)) := ⟨(HTL.out _ hxm.1).1, (HTL.out _ hxm.2.1).1⟩
                    have hxw : IntKind.i64.wrap (x.2 - 1) = x.2 - 1 := by have h1 := (HTL.out _ hxm.1).2; have h2 := (HTL.out _ hxm.2.1).2; have h3 := HIN.out.2; unfold I64 at h3; rw [IntKind.wrap_i64]; omega
                    subst htae
                    clear hx9 hxm
                    have hc1' : ∀ u, Below wr.heap.size wr u → u.cell? ⟨b, o + k * 2 + 1, none⟩ = some (.int .i64 x.2) := fun u hu => (hu.cell (World.block_lt_of_cell? wr _ hc1)).trans hc1
                    go_wp2_with fail
                    refine Calls.mono (HHA.out _ _ HBA.out HX.out.1) ?_
                    rintro e y1 ⟨rfl, hb⟩
                    have hd1 := hc1' y1 hb
                    have HY1 : Hid (Below wr.heap.size wr y1) := hb
                    clear hb hc0 hc1 hc1'
                    go_wp2_with fail
                    refine Calls.mono (HHA.out _ _ (below_next HBA.out HY1.out) HX.out.2) ?_
                    rintro e y2 ⟨rfl, hb⟩
                    have HY2 : Hid (Below wr.heap.size wr y2) := below_next HY1.out hb
                    clear hb hd1
                    go_wp2
                    go_roundw
                    case rel => exact ⟨k + 1, by omega, by go_num, below_next HBW.out HY2.out⟩
                    case measure => simp [intOf]; omega
                  · have hlti : ¬ (k : Int) < (kt : Int) := by omega
                    obtain ⟨N, hN⟩ : ∃ N : Nat, (N : Int) = nn := ⟨nn.toNat, by omega⟩
                    have HEQ : Hid (H9 = [((0, nn) : Rg)]) := Lst.uniq HWH.out.2.1 ⟨by simp; omega, by simp⟩ (fun i => by
                      rw [HWH.out.2.2.1 i, hasR_app, hasR_one, HTH.out.2.2.1.2 i]
                      simp only
                      constructor
                      · rintro (h9 | h9)
                        · have := (HG.out.2.2.1.2 i).1 h9; omega
                        · omega
                      · intro h9
                        by_cases h8 : hasR G i
                        · exact .inl h8
                        · exact .inr ⟨h9.1, h9.2, h8⟩)
                    have hGb := HG.out.2.2.1.1.bnd (n := nn) (fun i hi => by have := (HG.out.2.2.1.2 i).1 hi; omega)
                    have hTb := HTH.out.2.2.1.1.bnd (n := nn) (fun i hi => by have := (HTH.out.2.2.1.2 i).1 hi; omega)
                    have hnB : nn < 9223372036854775808 := by have := HIN.out.2; unfold I64 at this; omega
                    have HSG := sumU_size nn hnB _ G rfl HG.out.2.2.1.1 hGb
                    have HST := sumU_size nn hnB _ Th rfl HTH.out.2.2.1.1 hTb
                    have hcG := size_cnt N _ G rfl HG.out.2.2.1.1 (fun x hx => by rw [hN]; exact hGb x hx)
                    have hcT := size_cnt N _ Th rfl HTH.out.2.2.1.1 (fun x hx => by rw [hN]; exact hTb x hx)
                    have hcc := cntN_compl (l := G) (m := Th) N (fun i h0 hi => by rw [HTH.out.2.2.1.2 i]; constructor; (· intro h9; exact h9.2.2); (· intro h9; exact ⟨h0, by omega, h9⟩))
                    obtain ⟨sG, hsG⟩ : ∃ s, s = sizeR G := ⟨_, rfl⟩
                    obtain ⟨sT, hsT⟩ : ∃ s, s = sizeR Th := ⟨_, rfl⟩
                    have HSUM : Hid (IntKind.i64.wrap (sG + sT) = nn) := by unfold Hid; rw [IntKind.wrap_i64, hsG, hsT, hcG, hcT]; omega
                    have HVG : Hid (∀ out, Lst out → (∀ i, hasR out i ↔ hasR G i) → totI (sumU 0 out) = sG) := fun out h1 h2 => by
                      rw [Lst.uniq h1 HG.out.2.2.1.1 h2, HSG.1, hsG]
                      unfold totI
                      rw [if_neg (by rw [hcG]; omega)]
                    have HVT : Hid (∀ out, Lst out → (∀ i, hasR out i ↔ hasR Th i) → totI (sumU 0 out) = sT) := fun out h1 h2 => by
                      rw [Lst.uniq h1 HTH.out.2.2.1.1 h2, HST.1, hsT]
                      unfold totI
                      rw [if_neg (by rw [hcT]; omega)]
                    have HHG : Hid (2 * (kg : Int) ≤ nn + 1) := by have := (Lst.half nn _ G rfl HG.out.2.2.1.1 hGb (by omega)).1; rw [← HG.out.1] at this; exact this
                    have HHT : Hid (2 * (kt : Int) ≤ nn + 1) := by have := (Lst.half nn _ Th rfl HTH.out.2.2.1.1 hTb (by omega)).1; rw [← HTH.out.1] at this; exact this
                    clear hGb hTb HSG HST hcG hcT hcc hsG hsT
                    have HLIT : Hid (RdR (wr.alloc (.cells #[.int .i64 0, .int .i64 nn] 28 (0, 0))) (some ⟨wr.heap.size, 0, none⟩) [((0, nn) : Rg)]) := rd_lit1 wr (0, nn)
                    go_wp2_with fail
                    refine Calls.mono (same_t ha (some ⟨wr.heap.size, 0, none⟩) kh 1 ch 1 H9 [((0, nn) : Rg)] _ HWH.out.1 rfl (HRH.out _ (below_next HBW.out (al (Below.refl _ _) _))) HLIT.out (by have := HWH.out; omega) HEQ.out) ?_
                    rintro e y1 ⟨rfl, hb⟩
                    have HY1 : Hid (Below wr.heap.size wr y1) := below_next (al (Below.refl _ _) _) hb
                    clear hb
                    go_wp2_with fail
                    refine Calls.mono (total_t ga kg cg G y1 HG.out.1 (HRG.out _ (below_next HX8.out (below_next HX9.out (below_next HBW.out HY1.out)))) HG.out.2.1 (by have := HG.out; omega)) ?_
                    rintro e y2 ⟨o2, hl2, hm2, rfl, hb⟩
                    rw [HVG.out o2 hl2 hm2]
                    have HY2 : Hid (Below wr.heap.size wr y2) := below_next HY1.out hb
                    clear hb hl2 hm2
                    go_wp2_with fail
                    refine Calls.mono (total_t ta kt cu Th y2 HTH.out.1 (HRT.out _ (below_next HX9.out (below_next HBW.out HY2.out))) HTH.out.2.1 (by have := HTH.out; omega)) ?_
                    rintro e y3 ⟨o3, hl3, hm3, rfl, hb⟩
                    rw [HVT.out o3 hl3 hm3]
                    have HY3 : Hid (Below wr.heap.size wr y3) := below_next HY2.out hb
                    clear hb hl3 hm3
                    have hsum := HSUM.out
                    obtain ⟨hf, hfq⟩ : ∃ h : Int, h = nn.tdiv 2 := ⟨_, rfl⟩
                    obtain ⟨hr, hrq⟩ : ∃ h : Int, h = nn.tmod 2 := ⟨_, rfl⟩
                    have hq1 : hf = nn / 2 := by rw [hfq, Int.tdiv_eq_ediv_of_nonneg (by omega)]
                    have hq2 : hr = nn % 2 := by rw [hrq, Int.tmod_eq_emod_of_nonneg (by omega)]
                    have hqa : IntKind.i64.wrap hf = hf := by rw [IntKind.wrap_i64]; omega
                    have hqb : IntKind.i64.wrap (hf + hr) = hf + hr := by rw [IntKind.wrap_i64]; omega
                    have hqc : (kt : Int) ≤ hf + hr := by have := HHT.out; omega
                    have hqd : (kg : Int) ≤ hf + hr := by have := HHG.out; omega
                    have hqe : decide ((kt : Int) ≤ hf + hr) = true := decide_eq_true hqc
                    have hqf : decide ((kg : Int) ≤ hf + hr) = true := decide_eq_true hqd
                    have hfq' := hfq.symm
                    have hrq' := hrq.symm
                    clear hfq hrq hq1 hq2 hqc hqd
                    go_wp2_with fail
                    refine Calls.mono (leastL_t ga kg cg G y3 HG.out.1 (HRG.out _ (below_next HX8.out (below_next HX9.out (below_next HBW.out HY3.out)))) (by have := HG.out; omega) HG.out.2.2.1.1) ?_
                    rintro e y4 ⟨rfl, hb⟩
                    have HY4 : Hid (Below wr.heap.size wr y4) := below_next HY3.out hb
                    clear hb
                    go_wp2
                    go_ret
                    exact ⟨rfl, below_next HBA.out HY4.out⟩
end
end Go.Proofs.YtkjdeeamckmebaaDoor
