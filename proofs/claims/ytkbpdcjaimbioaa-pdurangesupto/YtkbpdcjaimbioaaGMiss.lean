import Derived.Test.YtkbpdcjaimbioaaGUnion
namespace Go.Proofs.Ytkbpdcjaimbioaa
set_option linter.unusedVariables false
set_option linter.unusedSimpArgs false
open Go.RowKit
def MRel (L : Nat) (ls : List Rg) (m : Int) (w3 : World) (ov av j : Value) (wr : World) : Prop := ∃ (k : Nat) (o : List Rg) (q : Int), k ≤ L + 1 ∧ j = .int .i64 (k : Int) ∧ av = .int .i64 q ∧ OwnR wr w3.heap.size ov o ∧ o.length ≤ k ∧ Below w3.heap.size w3 wr ∧ ((k ≤ L ∧ PI (ls.take k) o m q) ∨ (k = L + 1 ∧ MissS ls o m))
theorem heap_alloc_size1 (w : World) (o : Obj) : (w.alloc o).heap.size = w.heap.size + 1 := by simp
theorem min_if (a b : Int) : (if b < a then b else a) = min a b := by split <;> omega
section
set_option maxRecDepth 20000
set_option maxHeartbeats 1600000
theorem total_t (ao : Option Addr) (n cap : Nat) (xs : List Rg) (w : World) (hn : n = xs.length) (hx : RdR w ao xs) (ha : ao = none → cap = 0) (hl : n ≤ 1099511627776) :
    Calls Try.prog 14 #[.slice ao n cap] w fun e w' => TotOut xs w e w' := by
  have HR : Hid _ := least_t ao n cap xs w hn hx ha hl
  have HN : Hid _ := hn
  clear hn
  go_enter Try.func14, Try.ntmps14
  go_wp2_with (go_at_call 6; refine Calls.mono HR.out ?_; rintro e w1 ⟨v1, out, rfl, hown, h2, h3, h4, h5⟩; obtain ⟨a, c, hv, hc1, hc2, hc3, hrd, hq⟩ := hown.val; obtain ⟨L, hL⟩ : ∃ L : Nat, L = out.length := ⟨_, rfl⟩; rw [← hL] at hv; subst hv; have HL : Hid _ := hL; have HO : Hid (Lst out ∧ (∀ i, hasR out i ↔ hasR xs i) ∧ Below w.heap.size w w1) := ⟨h2, h3, h5⟩; have hLL : L ≤ 1099511627776 := (by have := HN.out; omega); clear hown h2 h3 h4 h5 hc1 hc2 hc3 hq hL)
  go_loopw [3, 9] (fun sv j wr => ∃ k : Nat, k ≤ L ∧ j = .int .i64 (k : Int) ∧ sv = .int .u64 (sumU 0 (out.take k)) ∧ Below w1.heap.size w1 wr) (fun _ j _ => L - (intOf j).toNat)
  case atStart => exact ⟨0, Nat.zero_le _, rfl, rfl, Below.refl _ _⟩
  case round =>
    obtain ⟨k, hk, rfl, rfl, hbw⟩ := hrel
    have hkw : IntKind.i64.wrap ((k : Int) + 1) = ((k + 1 : Nat) : Int) := by rw [IntKind.wrap_i64]; omega
    obtain ⟨s, hs⟩ : ∃ s : Int, s = sumU 0 (out.take k) := ⟨_, rfl⟩
    have HSI : Hid _ := sumU_in (out.take k) 0 (by omega)
    rw [← hs] at HSI
    have HS : Hid _ := hs
    rw [← hs]
    clear hs
    have HB : Hid (Below w1.heap.size w1 wr) := hbw
    by_cases hlt : k < L
    · have hk1 : k < out.length := by rw [← HL.out]; exact hlt
      have hlti : (k : Int) < (L : Int) := by omega
      have hk0 : (0 : Int) ≤ (k : Int) := by omega
      have hxr := hrd.below hbw
      obtain ⟨b, o, rfl, -, -⟩ := hxr k hk1
      have HRG : Hid _ := hxr.range k hk1
      obtain ⟨x, hx9⟩ : ∃ x : Rg, x = out[k] := ⟨_, rfl⟩
      rw [← hx9] at HRG
      have HTK : Hid (out.take (k + 1) = out.take k ++ [x]) := by unfold Hid; rw [List.take_succ_eq_append_getElem hk1, hx9]
      obtain ⟨a1, a2⟩ := x
      have HW : Hid _ := wrap_sub2 s a1 a2
      have HNX : Hid ((s + (a2 - a1)) % 18446744073709551616 = sumU 0 (out.take (k + 1))) := by unfold Hid; rw [HTK.out, sumU_snoc, HS.out]
      have hz := (zero_of_info info_rg).1
      clear hx9 hxr hbw
      go_wp2_with (refine wpList_load_mid rfl 31 _ rfl b (o + k * 2) (by rfl) [.int .i64 a1, .int .i64 a2] _ HRG.out Try.underlying31 rfl (by rw [(zero_of_info info_rg).2]; rfl) ?_)
      go_roundw
      case rel => exact ⟨k + 1, by omega, by go_num, by rw [← HNX.out, ← HW.out], al HB.out _⟩
      case measure => simp [intOf]; omega
    · have hlti : ¬ (k : Int) < (L : Int) := by omega
      have HF : Hid (s = sumU 0 out) := by
        have h9 := HS.out
        rw [List.take_of_length_le (by rw [← HL.out]; omega)] at h9
        exact h9
      have HT : Hid (IntKind.i64.wrap (min s 9223372036854775807) = totI (sumU 0 out)) := by
        unfold Hid totI
        rw [← HF.out, IntKind.wrap_i64]
        have := HSI.out
        split <;> omega
      obtain ⟨T, hT⟩ : ∃ T : Int, T = totI (sumU 0 out) := ⟨_, rfl⟩
      have hws : IntKind.i64.wrap (min s 9223372036854775807) = T := by rw [hT]; exact HT.out
      have HTT : Hid _ := hT
      clear hbw hT
      go_wp2
      go_ret
      exact ⟨out, HO.out.1, HO.out.2.1, by rw [← HTT.out]; rfl, below_next HO.out.2.2 HB.out⟩
theorem missing_t (ao : Option Addr) (n cap : Nat) (xs : List Rg) (m : Int) (w : World) (hn : n = xs.length) (hx : RdR w ao xs) (ha : ao = none → cap = 0) (hl : n ≤ 1000000000000) :
    Calls Try.prog 16 #[.slice ao n cap, .int .i64 m] w fun e w' => MissOut xs m w e w' := by
  have HR : Hid _ := least_t ao n cap xs w hn hx ha (by omega)
  have HN : Hid (n = xs.length) := hn
  clear hn
  go_enter Try.func16, Try.ntmps16
  go_wp2_with fail
  refine Calls.mono HR.out ?_
  rintro e w1 ⟨v1, ls, rfl, hown, h2, h3, h4, h5⟩
  obtain ⟨L, hL⟩ : ∃ L : Nat, L = ls.length := ⟨_, rfl⟩
  have HL : Hid (L = ls.length) := hL
  have HO : Hid (OwnR w1 w.heap.size v1 ls) := hown
  have HLS : Hid (Lst ls ∧ (∀ i, hasR ls i ↔ hasR xs i) ∧ Below w.heap.size w w1) := ⟨h2, h3, h5⟩
  have hLL : L ≤ 1000000000000 := by have := HN.out; omega
  have hLX : L ≤ xs.length := by omega
  have hs1 := h5.size
  clear hown h2 h3 h4 h5 HR
  obtain ⟨a, c, hv, -, -, -, -, -⟩ := OwnR.val HO.out
  rw [← hL] at hv
  subst hv
  clear hL
  go_wp2_with (at_builtin; refine wp_app1 rfl _ _ rfl w.heap.size _ ls L HL.out (m, m) w1.heap.size rfl (OwnR.below HO.out (al (Below.refl _ _) _)) rfl (heap_alloc_new w1 _) (by omega) (by simp; omega) ?_; intro g3 c3 w3 hown3 hg3 hlies3; have HB3 : Hid (Below w.heap.size w w3) := (al HLS.out.2.2 _).grown hg3 (by simp; omega) (fun k hk => (World.ownsRow.lt HO.out k hk).1); have HRD : Hid (RdR w3 (some ⟨g3, 0, none⟩) (ls ++ [(m, m)])) := (by obtain ⟨a9, c9, hv9, -, -, -, hrd9, -⟩ := OwnR.val hown3; simp only [Value.slice.injEq] at hv9; obtain ⟨rfl, -, rfl⟩ := hv9; exact hrd9); clear hown3 hg3 hlies3)
  go_loopw [5, 6, 18] (fun ov av j wr => MRel L ls m w3 ov av j wr) (fun _ _ j _ => L + 1 - (intOf j).toNat)
  case atStart => exact ⟨0, [], 0, Nat.zero_le _, rfl, rfl, OwnR.nil _ _, Nat.le_refl _, Below.refl _ _, .inl ⟨Nat.zero_le _, PI.start m⟩⟩
  case round =>
    obtain ⟨k, o, q, hk, rfl, rfl, hown, hol, hbw, hst⟩ := hrel
    have hkw : IntKind.i64.wrap ((k : Int) + 1) = ((k + 1 : Nat) : Int) := by rw [IntKind.wrap_i64]; omega
    have HO4 : Hid (OwnR wr w3.heap.size u5 o) := hown
    have HST : Hid ((k ≤ L ∧ PI (ls.take k) o m q) ∨ (k = L + 1 ∧ MissS ls o m)) := hst
    have HOL : Hid (o.length ≤ k) := hol
    have HBW : Hid (Below w3.heap.size w3 wr) := hbw
    have hsw := hbw.size
    have hol9 : o.length ≤ 1099511627776 := by omega
    clear hown hst hol
    by_cases hlt : k < L + 1
    · have hk1 : k < (ls ++ [(m, m)]).length := by rw [List.length_append, ← HL.out]; exact hlt
      have hlti : (k : Int) < (L : Int) + 1 := by omega
      have hk0 : (0 : Int) ≤ (k : Int) := by omega
      have HRG : Hid _ := (RdR.below HRD.out hbw).range k hk1
      obtain ⟨x, hx9⟩ : ∃ x : Rg, x = (ls ++ [(m, m)])[k] := ⟨_, rfl⟩
      rw [← hx9, Nat.zero_add] at HRG
      have HNX : Hid ((k + 1 ≤ L ∧ PI (ls.take (k + 1)) (gapped o q (min x.1 m)) m (max q x.2)) ∨ (k + 1 = L + 1 ∧ MissS ls (gapped o q (min x.1 m)) m)) := by
        rcases HST.out with ⟨h1, h2⟩ | ⟨h1, -⟩
        · by_cases h3 : k < L
          · have h4 : k < ls.length := by rw [← HL.out]; exact h3
            have h5 : x = ls[k] := by rw [hx9, List.getElem_append_left h4]
            refine .inl ⟨by omega, ?_⟩
            rw [List.take_succ_eq_append_getElem h4, ← h5]
            refine h2.step (by rw [h5]; exact HLS.out.1.pos _ (List.getElem_mem h4)) (fun z hz => ?_)
            obtain ⟨i, hi, e⟩ := List.getElem_of_mem hz
            have hi2 : i < k := by simp at hi; omega
            have h9 := List.pairwise_iff_getElem.1 HLS.out.1.gap i k (by omega) h4 hi2
            rw [h5, ← e, List.getElem_take]
            exact h9
          · have h4 : k = ls.length := by have := HL.out; omega
            have h5 : x = (m, m) := by rw [hx9, List.getElem_append_right (by omega)]; simp
            refine .inr ⟨by omega, ?_⟩
            rw [List.take_of_length_le (by omega)] at h2
            rw [h5, show min (m, m).1 m = m by simp]
            exact h2.last
        · omega
      obtain ⟨a1, a2⟩ := x
      have hz := (zero_of_info info_rg).1
      simp only at HNX
      clear hx9 hbw HST
      by_cases hg : q < min a1 m
      · have hgd : decide (min a1 m ≤ q) = false := by simp; omega
        rw [gapped_yes hg] at HNX
        go_wp2_with (first
          | (refine wpList_load_mid rfl 31 _ rfl g3 (k * 2) (by rfl) [.int .i64 a1, .int .i64 a2] _ HRG.out Try.underlying31 rfl (by rw [(zero_of_info info_rg).2]; rfl) ?_)
          | (go_at_call 24; refine (empty_t _ _ _).mono ?_; rintro e w5 ⟨rfl, hb5⟩; have hb5w : Below wr.heap.size wr w5 := below_next (al (al (Below.refl _ _) _) _) hb5; have hs5 := hb5.size; have HX1 : Hid (w5.cell? ⟨wr.heap.size, 1, none⟩ = some (.int .i64 a2)) := (((rd_lit1 wr (a1, a2)).below (below_next (al (Below.refl _ _) _) hb5)).range 0 (Nat.zero_lt_succ _)) 1 _ rfl; have HX2 : Hid (w5.rangeAt (wr.heap.size + 1) 0 [.int .i64 q, .int .i64 (min a1 m)]) := (by have h9 := ((rd_lit1 (wr.alloc (.cells #[.int .i64 a1, .int .i64 a2] 31 (0, 0))) (q, min a1 m)).below hb5); rw [heap_alloc_size1] at h9; exact h9.range 0 (Nat.zero_lt_succ _)); have HO5 : Hid (OwnR w5 w3.heap.size u5 o) := OwnR.below HO4.out hb5w; have HB5 : Hid (Below w3.heap.size w3 w5) := below_next HBW.out hb5w)
          | (refine wpList_load_mid rfl 31 _ rfl (wr.heap.size + 1) 0 (by rfl) [.int .i64 q, .int .i64 (min a1 m)] _ HX2.out Try.underlying31 rfl (by rw [(zero_of_info info_rg).2]; rfl) ?_)
          | (at_builtin; refine wp_app1 rfl _ _ rfl w3.heap.size _ o o.length rfl (q, min a1 m) w5.heap.size rfl (OwnR.below HO5.out (al (Below.refl _ _) _)) rfl (heap_alloc_new w5 _) hol9 (by simp at hs5 ⊢; omega) ?_; intro g6 c6 w6 hown6 hg6 hlies6; have hx6 : w6.cell? ⟨wr.heap.size, 1, none⟩ = some (.int .i64 a2) := hg6.cell (((al (Below.refl _ w5) _).cell (p := ⟨wr.heap.size, 1, none⟩) (World.block_lt_of_cell? w5 _ HX1.out)).trans HX1.out) (fun h => by have h9 := (World.ownsRow.lt HO4.out wr.heap.size h.symm).2; omega); have HB6 : Hid (Below w3.heap.size w3 w6) := (al HB5.out _).grown hg6 (by simp at hs5 ⊢; omega) (fun k hk => (World.ownsRow.lt HO4.out k hk).1)))
        go_roundw
        case rel => exact ⟨k + 1, _, _, by omega, by go_num, rfl, hown6, (by have := HOL.out; simp only [List.length_append, List.length_cons, List.length_nil]; omega), HB6.out, HNX.out⟩
        case measure => simp [intOf]; omega
      · have hgd : decide (min a1 m ≤ q) = true := by simp; omega
        rw [gapped_no hg] at HNX
        go_wp2_with (first
          | (refine wpList_load_mid rfl 31 _ rfl g3 (k * 2) (by rfl) [.int .i64 a1, .int .i64 a2] _ HRG.out Try.underlying31 rfl (by rw [(zero_of_info info_rg).2]; rfl) ?_)
          | (go_at_call 24; refine (empty_t _ _ _).mono ?_; rintro e w5 ⟨rfl, hb5⟩; have hb5w : Below wr.heap.size wr w5 := below_next (al (al (Below.refl _ _) _) _) hb5; have hs5 := hb5.size; have HX1 : Hid (w5.cell? ⟨wr.heap.size, 1, none⟩ = some (.int .i64 a2)) := (((rd_lit1 wr (a1, a2)).below (below_next (al (Below.refl _ _) _) hb5)).range 0 (Nat.zero_lt_succ _)) 1 _ rfl; have HX2 : Hid (w5.rangeAt (wr.heap.size + 1) 0 [.int .i64 q, .int .i64 (min a1 m)]) := (by have h9 := ((rd_lit1 (wr.alloc (.cells #[.int .i64 a1, .int .i64 a2] 31 (0, 0))) (q, min a1 m)).below hb5); rw [heap_alloc_size1] at h9; exact h9.range 0 (Nat.zero_lt_succ _)); have HO5 : Hid (OwnR w5 w3.heap.size u5 o) := OwnR.below HO4.out hb5w; have HB5 : Hid (Below w3.heap.size w3 w5) := below_next HBW.out hb5w; have hx5 := HX1.out))
        go_roundw
        case rel => exact ⟨k + 1, _, _, by omega, by go_num, rfl, HO5.out, (by have := HOL.out; omega), HB5.out, HNX.out⟩
        case measure => simp [intOf]; omega
    · have hlti : ¬ (k : Int) < (L : Int) + 1 := by omega
      have HF : Hid (MissS ls o m) := by
        rcases HST.out with ⟨h1, -⟩ | ⟨-, h2⟩
        · omega
        · exact h2
      clear hbw
      go_wp2
      go_ret
      exact ⟨_, o, rfl, OwnR.base HO4.out HB3.out.size, ⟨HF.out.1, fun i => by rw [HF.out.2 i, HLS.out.2.1 i]⟩, by have := HOL.out; omega, below_next HB3.out HBW.out⟩
end
end Go.Proofs.Ytkbpdcjaimbioaa
