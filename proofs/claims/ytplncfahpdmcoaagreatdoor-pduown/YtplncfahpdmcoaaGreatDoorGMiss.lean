import Derived.Test.YtplncfahpdmcoaaGreatDoorGLeast
import Derived.Lib.AppendZeros
namespace Go.Proofs.YtplncfahpdmcoaaGreatDoor
set_option linter.unusedVariables false
set_option linter.unusedSimpArgs false
open Go.RowKit
set_option maxRecDepth 20000 in
set_option maxHeartbeats 1600000 in
theorem growR_nil (n : Nat) (w : World) (hn : n ≤ 1099511627776) :
    Calls Tryz.prog 61 #[.slice none 0 0, .int .i64 n] w fun e w' => ∃ v, e = .returned v ∧ OwnR w' w.heap.size v [] ∧ Below w.heap.size w w' := by
  obtain ⟨i0, hi, hz0, hz1, hz2⟩ := info_parts infoR
  by_cases h0 : n = 0
  · subst h0
    go_enter Tryz.func61, Tryz.ntmps61
    go_wp2
    go_ret
    exact ⟨_, rfl, World.ownsRow_nil _ _ _ _, Below.refl _ _⟩
  · have hpos : (0 : Int) < n := by omega
    have hap := fun (u : World) (ty : TypeId) => Go.Lib.run_append_nil_zeros (P := Tryz.prog) u 24 3 ty 43 i0 (.agg #[.int .i64 0, .int .i64 0]) .i64 .i64 Tryz.underlying24 Tryz.underlying3 hi hz0 n (by omega) (by omega) (by omega) (by rw [hz2]; omega)
    have HAP : Hid _ := hap
    clear hap
    go_enter Tryz.func61, Tryz.ntmps61
    go_wp2_with (at_builtin; refine Go.Lib.wpList_append_run _ rfl _ _ _ _ rfl _ _ rfl rfl _ _ (HAP.out _ _) ?_)
    go_ret
    refine ⟨_, rfl, World.ownsRow.drew (World.ownsRow_made w _ _ (Nat.le_refl _) (grownCap_le_maxLen w n 0 43 (by simp only [maxLen]; omega)) ?_), ((Below.refl _ _).alloc (Nat.le_refl _) _).drew⟩
    have := grownCap_ge w n 0 43
    simp [size_zeroCells, Value.cells]
    omega

/-- a slice value handed in: its address, its capacity, its bytes -/
structure PartR where
  ao : Option Addr
  cap : Nat
  xs : List Rg
def PartR.v (p : PartR) : Value := .slice p.ao p.xs.length p.cap
def PartR.ok (w : World) (p : PartR) : Prop := RdR w p.ao p.xs ∧ (p.ao = none → p.cap = 0)
def catR (ps : List PartR) : List Rg := ps.flatMap (·.xs)
theorem catR_snoc (ps : List PartR) (k : Nat) (h : k < ps.length) : catR (ps.take (k + 1)) = catR (ps.take k) ++ ps[k].xs := by
  unfold catR
  rw [List.take_succ_eq_append_getElem h, List.flatMap_append]
  simp
theorem catR_le (ps : List PartR) (k : Nat) : (catR (ps.take k)).length ≤ (catR ps).length := by
  have h : catR ps = catR (ps.take k) ++ catR (ps.drop k) := by
    conv => lhs; rw [← List.take_append_drop k ps]
    unfold catR
    rw [List.flatMap_append]
  rw [h, List.length_append]
  omega

set_option maxRecDepth 20000 in
set_option maxHeartbeats 400000 in
theorem concat_t (b o c : Nat) (ps : List PartR) (w : World) (hn : ps.length ≤ 1000) (hp : ∀ j (h : j < ps.length), w.cell? ⟨b, o + j, none⟩ = some ps[j].v ∧ ps[j].ok w) (hb : (catR ps).length ≤ 1099511627776) :
    Calls Tryz.prog 36 #[.slice (some ⟨b, o, none⟩) ps.length c] w fun e w' => ∃ v, e = .returned v ∧ OwnR w' w.heap.size v (catR ps) ∧ Below w.heap.size w w' := by
  go_enter Tryz.func36, Tryz.ntmps36
  go_wp2
  go_loop [3, 11] (fun s i => ∃ k : Nat, k ≤ ps.length ∧ i = .int .i64 k ∧ s = .int .i64 ((catR (ps.take k)).length : Nat)) (fun _ i => ps.length - (intOf i).toNat)
  case atStart => exact ⟨0, Nat.zero_le _, rfl, rfl⟩
  case round =>
    obtain ⟨k, hk, rfl, rfl⟩ := hrel
    have hcl := catR_le ps k
    by_cases hlt : k < ps.length
    · have hc1 := (hp k hlt).1
      unfold PartR.v at hc1
      have hcl1 := catR_le ps (k + 1)
      have HS : Hid ((catR (ps.take (k + 1))).length = (catR (ps.take k)).length + ps[k].xs.length) := by unfold Hid; rw [catR_snoc ps k hlt, List.length_append]
      have hcl2 : (catR (ps.take k)).length + ps[k].xs.length ≤ 1099511627776 := by have := HS.out; omega
      clear hp hcl1
      go_wp2
      go_round
      case rel => exact ⟨k + 1, by omega, by go_num, by rw [HS.out]; go_num⟩
      case measure => simp [intOf]; omega
    · obtain rfl : k = ps.length := by omega
      rw [List.take_length]
      clear hcl
      go_wp2_with fail
      refine (growR_nil _ _ hb).mono ?_
      rintro e w1 ⟨v0, rfl, hown0, hb0⟩
      go_wp2
      go_loopw [6, 27] (fun v i wr => ∃ k : Nat, k ≤ ps.length ∧ i = .int .i64 k ∧ OwnR wr w.heap.size v (catR (ps.take k)) ∧ Below w.heap.size w wr) (fun _ i _ => ps.length - (intOf i).toNat)
      case atStart => exact ⟨0, Nat.zero_le _, rfl, hown0, hb0⟩
      case round =>
        obtain ⟨k, hk, rfl, hown, hbel⟩ := hrel
        by_cases hlt : k < ps.length
        · obtain ⟨hc1, hr1, hn1⟩ := hp k hlt
          unfold PartR.v at hc1
          have hc2 := (hbel.cell (World.block_lt_of_cell? w _ hc1)).trans hc1
          have hr2 := hr1.below hbel
          have hsz := hbel.size
          have HS : Hid (catR (ps.take (k + 1)) = catR (ps.take k) ++ ps[k].xs) := catR_snoc ps k hlt
          have hle : (catR (ps.take k)).length + ps[k].xs.length ≤ 1099511627776 := by
            have h1 := catR_le ps (k + 1)
            rw [HS.out, List.length_append] at h1
            omega
          have HR : Hid _ := hr2
          have HN : Hid _ := hn1
          clear hp hc1 hr1 hr2 hn1 hown0 hb0
          go_wp2_with (at_builtin; refine wp_appR rfl _ _ rfl _ _ _ _ _ _ _ rfl rfl hown rfl HR.out HN.out hle hsz ?_; intro v2 w2 hown2 hg2)
          go_roundw
          case rel => exact ⟨k + 1, by omega, by go_num, by rw [HS.out]; exact hown2, hbel.grown hg2 hsz (fun j hj => (World.ownsRow.lt hown j hj).1)⟩
          case measure => simp [intOf]; omega
        · obtain rfl : k = ps.length := by omega
          rw [List.take_length] at hown
          go_wp2
          go_ret
          exact ⟨_, rfl, hown, hbel⟩

section
set_option maxRecDepth 20000
set_option maxHeartbeats 1600000
theorem union_t (ao bo : Option Addr) (n m c1 c2 : Nat) (xs ys : List Rg) (w : World) (hn : n = xs.length) (hm : m = ys.length) (hx : RdR w ao xs) (hy : RdR w bo ys) (hl : n + m ≤ 1099511627776) (ha : ao = none → c1 = 0) (hb : bo = none → c2 = 0) :
    Calls Tryz.prog 10 #[.slice ao n c1, .slice bo m c2] w fun e w' => LeastOut (xs ++ ys) w e w' := by
  have hcat : catR [⟨ao, c1, xs⟩, ⟨bo, c2, ys⟩] = xs ++ ys := by simp [catR]
  have HC : Hid _ := concat_t w.heap.size 0 2 [⟨ao, c1, xs⟩, ⟨bo, c2, ys⟩] (w.alloc (.cells #[.slice ao xs.length c1, .slice bo ys.length c2] 24 (0, 0))) (by simp) (fun j hj => by
    match j, hj with
    | 0, _ => exact ⟨by rw [cell_of_row _ _ _ _ _ _ (heap_alloc_new w _)]; rfl, hx.below (al (Below.refl _ _) _), ha⟩
    | 1, _ => exact ⟨by rw [cell_of_row _ _ _ _ _ _ (heap_alloc_new w _)]; rfl, hy.below (al (Below.refl _ _) _), hb⟩) (by rw [hcat, List.length_append]; omega)
  rw [hcat, ← hn, ← hm] at HC
  have hl2 : (xs ++ ys).length ≤ 1099511627776 := by rw [List.length_append]; omega
  have HL2 : Hid _ := hl2
  clear hn hm hcat hl2
  go_enter Tryz.func10, Tryz.ntmps10
  go_wp2_with fail
  refine Calls.mono HC.out ?_
  rintro e w1 ⟨v1, rfl, hown1, hb1⟩
  have hb1' : Below w.heap.size w w1 := below_next (al (Below.refl _ _) _) hb1
  obtain ⟨a, c, hv, -, -, hc3, hrd, -⟩ := hown1.val
  obtain ⟨L, hL⟩ : ∃ L : Nat, L = (xs ++ ys).length := ⟨_, rfl⟩
  rw [← hL] at hv
  subst hv
  have HR : Hid _ := least_t a L c (xs ++ ys) w1 hL hrd hc3 (by rw [hL]; exact HL2.out)
  have HB1 : Hid (Below w.heap.size w w1) := hb1'
  clear hown1 hb1 hb1' hc3 hrd hL HC
  go_wp2_with fail
  refine Calls.mono HR.out ?_
  rintro e w3 ⟨v3, out, rfl, h1, h2, h3, h4, h5⟩
  go_wp2
  go_ret
  exact LeastOut.base ⟨v3, out, rfl, h1, h2, h3, h4, h5⟩ HB1.out
theorem add_t (ao : Option Addr) (n cap : Nat) (xs : List Rg) (i : Int) (w : World) (hn : n = xs.length) (hx : RdR w ao xs) (hl : n + 1 ≤ 1099511627776) (hi : I64 i) (ha : ao = none → cap = 0) :
    Calls Tryz.prog 11 #[.slice ao n cap, .int .i64 i] w fun e w' => LeastOut (addL xs i) w e w' := by
  by_cases hm : i = 9223372036854775807
  · subst hm
    have HR : Hid _ := least_t ao n cap xs w hn hx ha (by omega)
    have HA : Hid (addL xs 9223372036854775807 = xs) := by unfold Hid addL; simp
    rw [HA.out]
    clear hn hx hi
    go_enter Tryz.func11, Tryz.ntmps11
    go_wp2_with (go_at_call 9; refine Calls.mono HR.out ?_; rintro e w3 ⟨v3, out, rfl, h1, h2, h3, h4, h5⟩)
    go_ret
    exact ⟨v3, out, rfl, h1, h2, h3, h4, h5⟩
  · have HA : Hid (addL xs i = xs ++ [(i, i + 1)]) := by unfold Hid addL; simp [hm]
    rw [HA.out]
    unfold I64 at hi
    have hiw : IntKind.i64.wrap (i + 1) = i + 1 := by rw [IntKind.wrap_i64]; omega
    have HR : Hid _ := union_t ao (some ⟨w.heap.size, 0, none⟩) n 1 cap 1 xs [(i, i + 1)] _ hn rfl (hx.below (al (Below.refl _ _) _)) (rd_lit1 w (i, i + 1)) (by omega) ha (fun h => by cases h)
    clear hn hx hi
    go_enter Tryz.func11, Tryz.ntmps11
    go_wp2_with (go_at_call 10; refine Calls.mono HR.out ?_; rintro e w3 ⟨v3, out, rfl, h1, h2, h3, h4, h5⟩)
    go_ret
    exact LeastOut.base ⟨v3, out, rfl, h1, h2, h3, h4, h5⟩ (al (Below.refl _ _) _)
end
end Go.Proofs.YtplncfahpdmcoaaGreatDoor
namespace Go.Proofs.YtplncfahpdmcoaaGreatDoor
set_option linter.unusedVariables false
set_option linter.unusedSimpArgs false
open Go.RowKit
def MRel (L : Nat) (ls : List Rg) (m : Int) (w3 : World) (ov av j : Value) (wr : World) : Prop := ∃ (k : Nat) (o : List Rg) (q : Int), k ≤ L + 1 ∧ j = .int .i64 (k : Int) ∧ av = .int .i64 q ∧ OwnR wr w3.heap.size ov o ∧ o.length ≤ k ∧ Below w3.heap.size w3 wr ∧ ((k ≤ L ∧ PI (ls.take k) o m q) ∨ (k = L + 1 ∧ MissS ls o m))
theorem heap_alloc_size1 (w : World) (o : Obj) : (w.alloc o).heap.size = w.heap.size + 1 := by simp
theorem min_if (a b : Int) : (if b < a then b else a) = min a b := by split <;> omega
section
set_option maxRecDepth 20000
set_option maxHeartbeats 1600000
theorem missing_t (ao : Option Addr) (n cap : Nat) (xs : List Rg) (m : Int) (w : World) (hn : n = xs.length) (hx : RdR w ao xs) (ha : ao = none → cap = 0) (hl : n ≤ 1000000000000) :
    Calls Tryz.prog 12 #[.slice ao n cap, .int .i64 m] w fun e w' => MissOut xs m w e w' := by
  have HR : Hid _ := least_t ao n cap xs w hn hx ha (by omega)
  have HN : Hid (n = xs.length) := hn
  clear hn
  go_enter Tryz.func12, Tryz.ntmps12
  go_wp2_with fail
  refine Calls.mono HR.out ?_
  rintro e w1 ⟨v1, ls, rfl, hown, h2, h3, h4, h5⟩
  obtain ⟨L, hL⟩ : ∃ L : Nat, L = ls.length := ⟨_, rfl⟩
  have HL : Hid (L = ls.length) := hL
  have HO : Hid (OwnR w1 w.heap.size v1 ls) := hown
  have HLS : Hid (Lst ls ∧ (∀ i, hasR ls i ↔ hasR xs i) ∧ Below w.heap.size w w1) := ⟨h2, h3, h5⟩
  have hLL : L ≤ 1000000000000 := by have := HN.out; omega
  have hLX : L ≤ xs.length := by omega
  have hs1 := h5.size
  clear hown h2 h3 h4 h5 HR
  obtain ⟨a, c, hv, -, -, -, -, -⟩ := OwnR.val HO.out
  rw [← hL] at hv
  subst hv
  clear hL
  go_wp2_with (at_builtin; refine wp_appR1 rfl _ _ rfl w.heap.size _ ls L HL.out (m, m) w1.heap.size rfl (OwnR.below HO.out (al (Below.refl _ _) _)) rfl (heap_alloc_new w1 _) (by omega) (by simp; omega) ?_; intro g3 c3 w3 hown3 hg3 hlies3; have HB3 : Hid (Below w.heap.size w w3) := (al HLS.out.2.2 _).grown hg3 (by simp; omega) (fun k hk => (World.ownsRow.lt HO.out k hk).1); have HRD : Hid (RdR w3 (some ⟨g3, 0, none⟩) (ls ++ [(m, m)])) := (by obtain ⟨a9, c9, hv9, -, -, -, hrd9, -⟩ := OwnR.val hown3; simp only [Value.slice.injEq] at hv9; obtain ⟨rfl, -, rfl⟩ := hv9; exact hrd9); clear hown3 hg3 hlies3)
  go_loopw [5, 6, 18] (fun ov av j wr => MRel L ls m w3 ov av j wr) (fun _ _ j _ => L + 1 - (intOf j).toNat)
  case atStart => exact ⟨0, [], 0, Nat.zero_le _, rfl, rfl, OwnR.nil _ _, Nat.le_refl _, Below.refl _ _, .inl ⟨Nat.zero_le _, PI.start m⟩⟩
  case round =>
    obtain ⟨k, o, q, hk, rfl, rfl, hown, hol, hbw, hst⟩ := hrel
    have hkw : IntKind.i64.wrap ((k : Int) + 1) = ((k + 1 : Nat) : Int) := by rw [IntKind.wrap_i64]; omega
    have HO4 : Hid (OwnR wr w3.heap.size u5 o) := hown
    have HST : Hid ((k ≤ L ∧ PI (ls.take k) o m q) ∨ (k = L + 1 ∧ MissS ls o m)) := hst
    have HOL : Hid (o.length ≤ k) := hol
    have HBW : Hid (Below w3.heap.size w3 wr) := hbw
    have hsw := hbw.size
    have hol9 : o.length ≤ 1099511627776 := by omega
    clear hown hst hol
    by_cases hlt : k < L + 1
    · have hk1 : k < (ls ++ [(m, m)]).length := by rw [List.length_append, ← HL.out]; exact hlt
      have hlti : (k : Int) < (L : Int) + 1 := by omega
      have hk0 : (0 : Int) ≤ (k : Int) := by omega
      have HRG : Hid _ := (RdR.below HRD.out hbw).range k hk1
      obtain ⟨x, hx9⟩ : ∃ x : Rg, x = (ls ++ [(m, m)])[k] := ⟨_, rfl⟩
      rw [← hx9, Nat.zero_add] at HRG
      have HNX : Hid ((k + 1 ≤ L ∧ PI (ls.take (k + 1)) (gapped o q (min x.1 m)) m (max q x.2)) ∨ (k + 1 = L + 1 ∧ MissS ls (gapped o q (min x.1 m)) m)) := by
        rcases HST.out with ⟨h1, h2⟩ | ⟨h1, -⟩
        · by_cases h3 : k < L
          · have h4 : k < ls.length := by rw [← HL.out]; exact h3
            have h5 : x = ls[k] := by rw [hx9, List.getElem_append_left h4]
            refine .inl ⟨by omega, ?_⟩
            rw [List.take_succ_eq_append_getElem h4, ← h5]
            refine h2.step (by rw [h5]; exact HLS.out.1.pos _ (List.getElem_mem h4)) (fun z hz => ?_)
            obtain ⟨i, hi, e⟩ := List.getElem_of_mem hz
            have hi2 : i < k := by simp at hi; omega
            have h9 := List.pairwise_iff_getElem.1 HLS.out.1.gap i k (by omega) h4 hi2
            rw [h5, ← e, List.getElem_take]
            exact h9
          · have h4 : k = ls.length := by have := HL.out; omega
            have h5 : x = (m, m) := by rw [hx9, List.getElem_append_right (by omega)]; simp
            refine .inr ⟨by omega, ?_⟩
            rw [List.take_of_length_le (by omega)] at h2
            rw [h5, show min (m, m).1 m = m by simp]
            exact h2.last
        · omega
      obtain ⟨a1, a2⟩ := x
      have hz := (zero_of_info info_rg).1
      simp only at HNX
      clear hx9 hbw HST
      by_cases hg : q < min a1 m
      · have hgd : decide (min a1 m ≤ q) = false := by simp; omega
        rw [gapped_yes hg] at HNX
        go_wp2_with (first
          | (refine wpList_load_mid rfl 43 _ rfl g3 (k * 2) (by rfl) [.int .i64 a1, .int .i64 a2] _ HRG.out Tryz.underlying43 rfl (by rw [(zero_of_info info_rg).2]; rfl) ?_)
          | (go_at_call 35; refine (empty_t _ _ _).mono ?_; rintro e w5 ⟨rfl, hb5⟩; have hb5w : Below wr.heap.size wr w5 := below_next (al (al (Below.refl _ _) _) _) hb5; have hs5 := hb5.size; have HX1 : Hid (w5.cell? ⟨wr.heap.size, 1, none⟩ = some (.int .i64 a2)) := (((rd_lit1 wr (a1, a2)).below (below_next (al (Below.refl _ _) _) hb5)).range 0 (Nat.zero_lt_succ _)) 1 _ rfl; have HX2 : Hid (w5.rangeAt (wr.heap.size + 1) 0 [.int .i64 q, .int .i64 (min a1 m)]) := (by have h9 := ((rd_lit1 (wr.alloc (.cells #[.int .i64 a1, .int .i64 a2] 43 (0, 0))) (q, min a1 m)).below hb5); rw [heap_alloc_size1] at h9; exact h9.range 0 (Nat.zero_lt_succ _)); have HO5 : Hid (OwnR w5 w3.heap.size u5 o) := OwnR.below HO4.out hb5w; have HB5 : Hid (Below w3.heap.size w3 w5) := below_next HBW.out hb5w)
          | (refine wpList_load_mid rfl 43 _ rfl (wr.heap.size + 1) 0 (by rfl) [.int .i64 q, .int .i64 (min a1 m)] _ HX2.out Tryz.underlying43 rfl (by rw [(zero_of_info info_rg).2]; rfl) ?_)
          | (at_builtin; refine wp_appR1 rfl _ _ rfl w3.heap.size _ o o.length rfl (q, min a1 m) w5.heap.size rfl (OwnR.below HO5.out (al (Below.refl _ _) _)) rfl (heap_alloc_new w5 _) hol9 (by simp at hs5 ⊢; omega) ?_; intro g6 c6 w6 hown6 hg6 hlies6; have hx6 : w6.cell? ⟨wr.heap.size, 1, none⟩ = some (.int .i64 a2) := hg6.cell (((al (Below.refl _ w5) _).cell (p := ⟨wr.heap.size, 1, none⟩) (World.block_lt_of_cell? w5 _ HX1.out)).trans HX1.out) (fun h => by have h9 := (World.ownsRow.lt HO4.out wr.heap.size h.symm).2; omega); have HB6 : Hid (Below w3.heap.size w3 w6) := (al HB5.out _).grown hg6 (by simp at hs5 ⊢; omega) (fun k hk => (World.ownsRow.lt HO4.out k hk).1)))
        go_roundw
        case rel => exact ⟨k + 1, _, _, by omega, by go_num, rfl, hown6, (by have := HOL.out; simp only [List.length_append, List.length_cons, List.length_nil]; omega), HB6.out, HNX.out⟩
        case measure => simp [intOf]; omega
      · have hgd : decide (min a1 m ≤ q) = true := by simp; omega
        rw [gapped_no hg] at HNX
        go_wp2_with (first
          | (refine wpList_load_mid rfl 43 _ rfl g3 (k * 2) (by rfl) [.int .i64 a1, .int .i64 a2] _ HRG.out Tryz.underlying43 rfl (by rw [(zero_of_info info_rg).2]; rfl) ?_)
          | (go_at_call 35; refine (empty_t _ _ _).mono ?_; rintro e w5 ⟨rfl, hb5⟩; have hb5w : Below wr.heap.size wr w5 := below_next (al (al (Below.refl _ _) _) _) hb5; have hs5 := hb5.size; have HX1 : Hid (w5.cell? ⟨wr.heap.size, 1, none⟩ = some (.int .i64 a2)) := (((rd_lit1 wr (a1, a2)).below (below_next (al (Below.refl _ _) _) hb5)).range 0 (Nat.zero_lt_succ _)) 1 _ rfl; have HX2 : Hid (w5.rangeAt (wr.heap.size + 1) 0 [.int .i64 q, .int .i64 (min a1 m)]) := (by have h9 := ((rd_lit1 (wr.alloc (.cells #[.int .i64 a1, .int .i64 a2] 43 (0, 0))) (q, min a1 m)).below hb5); rw [heap_alloc_size1] at h9; exact h9.range 0 (Nat.zero_lt_succ _)); have HO5 : Hid (OwnR w5 w3.heap.size u5 o) := OwnR.below HO4.out hb5w; have HB5 : Hid (Below w3.heap.size w3 w5) := below_next HBW.out hb5w; have hx5 := HX1.out))
        go_roundw
        case rel => exact ⟨k + 1, _, _, by omega, by go_num, rfl, HO5.out, (by have := HOL.out; omega), HB5.out, HNX.out⟩
        case measure => simp [intOf]; omega
    · have hlti : ¬ (k : Int) < (L : Int) + 1 := by omega
      have HF : Hid (MissS ls o m) := by
        rcases HST.out with ⟨h1, -⟩ | ⟨-, h2⟩
        · omega
        · exact h2
      clear hbw
      go_wp2
      go_ret
      exact ⟨_, o, rfl, OwnR.base HO4.out HB3.out.size, ⟨HF.out.1, fun i => by rw [HF.out.2 i, HLS.out.2.1 i]⟩, by have := HOL.out; omega, below_next HB3.out HBW.out⟩
end
end Go.Proofs.YtplncfahpdmcoaaGreatDoor
