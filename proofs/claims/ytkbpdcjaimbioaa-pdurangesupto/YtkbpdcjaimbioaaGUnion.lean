import Derived.Test.YtkbpdcjaimbioaaGLeast
import Derived.Lib.AppendZeros
namespace Go.Proofs.Ytkbpdcjaimbioaa
set_option linter.unusedVariables false
set_option linter.unusedSimpArgs false
open Go.RowKit
set_option maxRecDepth 20000 in
set_option maxHeartbeats 1600000 in
theorem growR_nil (n : Nat) (w : World) (hn : n ≤ 1099511627776) :
    Calls Try.prog 31 #[.slice none 0 0, .int .i64 n] w fun e w' => ∃ v, e = .returned v ∧ OwnR w' w.heap.size v [] ∧ Below w.heap.size w w' := by
  obtain ⟨i0, hi, hz0, hz1, hz2⟩ := info_parts infoR
  by_cases h0 : n = 0
  · subst h0
    go_enter Try.func31, Try.ntmps31
    go_wp2
    go_ret
    exact ⟨_, rfl, World.ownsRow_nil _ _ _ _, Below.refl _ _⟩
  · have hpos : (0 : Int) < n := by omega
    have hap := fun (u : World) (ty : TypeId) => Go.Lib.run_append_nil_zeros (P := Try.prog) u 22 3 ty 31 i0 (.agg #[.int .i64 0, .int .i64 0]) .i64 .i64 Try.underlying22 Try.underlying3 hi hz0 n (by omega) (by omega) (by omega) (by rw [hz2]; omega)
    have HAP : Hid _ := hap
    clear hap
    go_enter Try.func31, Try.ntmps31
    go_wp2_with (at_builtin; refine Go.Lib.wpList_append_run _ rfl _ _ _ _ rfl _ _ rfl rfl _ _ (HAP.out _ _) ?_)
    go_ret
    refine ⟨_, rfl, World.ownsRow.drew (World.ownsRow_made w _ _ (Nat.le_refl _) (grownCap_le_maxLen w n 0 31 (by simp only [maxLen]; omega)) ?_), ((Below.refl _ _).alloc (Nat.le_refl _) _).drew⟩
    have := grownCap_ge w n 0 31
    simp [size_zeroCells, Value.cells]
    omega

/-- a slice value handed in: its address, its capacity, its bytes -/
structure PartR where
  ao : Option Addr
  cap : Nat
  xs : List Rg
def PartR.v (p : PartR) : Value := .slice p.ao p.xs.length p.cap
def PartR.ok (w : World) (p : PartR) : Prop := RdR w p.ao p.xs ∧ (p.ao = none → p.cap = 0)
def catR (ps : List PartR) : List Rg := ps.flatMap (·.xs)
theorem catR_snoc (ps : List PartR) (k : Nat) (h : k < ps.length) : catR (ps.take (k + 1)) = catR (ps.take k) ++ ps[k].xs := by
  unfold catR
  rw [List.take_succ_eq_append_getElem h, List.flatMap_append]
  simp
theorem catR_le (ps : List PartR) (k : Nat) : (catR (ps.take k)).length ≤ (catR ps).length := by
  have h : catR ps = catR (ps.take k) ++ catR (ps.drop k) := by
    conv => lhs; rw [← List.take_append_drop k ps]
    unfold catR
    rw [List.flatMap_append]
  rw [h, List.length_append]
  omega

set_option maxRecDepth 20000 in
set_option maxHeartbeats 400000 in
theorem concat_t (b o c : Nat) (ps : List PartR) (w : World) (hn : ps.length ≤ 1000) (hp : ∀ j (h : j < ps.length), w.cell? ⟨b, o + j, none⟩ = some ps[j].v ∧ ps[j].ok w) (hb : (catR ps).length ≤ 1099511627776) :
    Calls Try.prog 27 #[.slice (some ⟨b, o, none⟩) ps.length c] w fun e w' => ∃ v, e = .returned v ∧ OwnR w' w.heap.size v (catR ps) ∧ Below w.heap.size w w' := by
  go_enter Try.func27, Try.ntmps27
  go_wp2
  go_loop [3, 11] (fun s i => ∃ k : Nat, k ≤ ps.length ∧ i = .int .i64 k ∧ s = .int .i64 ((catR (ps.take k)).length : Nat)) (fun _ i => ps.length - (intOf i).toNat)
  case atStart => exact ⟨0, Nat.zero_le _, rfl, rfl⟩
  case round =>
    obtain ⟨k, hk, rfl, rfl⟩ := hrel
    have hcl := catR_le ps k
    by_cases hlt : k < ps.length
    · have hc1 := (hp k hlt).1
      unfold PartR.v at hc1
      have hcl1 := catR_le ps (k + 1)
      have HS : Hid ((catR (ps.take (k + 1))).length = (catR (ps.take k)).length + ps[k].xs.length) := by unfold Hid; rw [catR_snoc ps k hlt, List.length_append]
      have hcl2 : (catR (ps.take k)).length + ps[k].xs.length ≤ 1099511627776 := by have := HS.out; omega
      clear hp hcl1
      go_wp2
      go_round
      case rel => exact ⟨k + 1, by omega, by go_num, by rw [HS.out]; go_num⟩
      case measure => simp [intOf]; omega
    · obtain rfl : k = ps.length := by omega
      rw [List.take_length]
      clear hcl
      go_wp2_with fail
      refine (growR_nil _ _ hb).mono ?_
      rintro e w1 ⟨v0, rfl, hown0, hb0⟩
      go_wp2
      go_loopw [6, 27] (fun v i wr => ∃ k : Nat, k ≤ ps.length ∧ i = .int .i64 k ∧ OwnR wr w.heap.size v (catR (ps.take k)) ∧ Below w.heap.size w wr) (fun _ i _ => ps.length - (intOf i).toNat)
      case atStart => exact ⟨0, Nat.zero_le _, rfl, hown0, hb0⟩
      case round =>
        obtain ⟨k, hk, rfl, hown, hbel⟩ := hrel
        by_cases hlt : k < ps.length
        · obtain ⟨hc1, hr1, hn1⟩ := hp k hlt
          unfold PartR.v at hc1
          have hc2 := (hbel.cell (World.block_lt_of_cell? w _ hc1)).trans hc1
          have hr2 := hr1.below hbel
          have hsz := hbel.size
          have HS : Hid (catR (ps.take (k + 1)) = catR (ps.take k) ++ ps[k].xs) := catR_snoc ps k hlt
          have hle : (catR (ps.take k)).length + ps[k].xs.length ≤ 1099511627776 := by
            have h1 := catR_le ps (k + 1)
            rw [HS.out, List.length_append] at h1
            omega
          have HR : Hid _ := hr2
          have HN : Hid _ := hn1
          clear hp hc1 hr1 hr2 hn1 hown0 hb0
          go_wp2_with (at_builtin; refine wp_appR rfl _ _ rfl _ _ _ _ _ _ _ rfl rfl hown rfl HR.out HN.out hle hsz ?_; intro v2 w2 hown2 hg2)
          go_roundw
          case rel => exact ⟨k + 1, by omega, by go_num, by rw [HS.out]; exact hown2, hbel.grown hg2 hsz (fun j hj => (World.ownsRow.lt hown j hj).1)⟩
          case measure => simp [intOf]; omega
        · obtain rfl : k = ps.length := by omega
          rw [List.take_length] at hown
          go_wp2
          go_ret
          exact ⟨_, rfl, hown, hbel⟩

section
set_option maxRecDepth 20000
set_option maxHeartbeats 1600000
theorem union_t (ao bo : Option Addr) (n m c1 c2 : Nat) (xs ys : List Rg) (w : World) (hn : n = xs.length) (hm : m = ys.length) (hx : RdR w ao xs) (hy : RdR w bo ys) (hl : n + m ≤ 1099511627776) (ha : ao = none → c1 = 0) (hb : bo = none → c2 = 0) :
    Calls Try.prog 8 #[.slice ao n c1, .slice bo m c2] w fun e w' => LeastOut (xs ++ ys) w e w' := by
  have hcat : catR [⟨ao, c1, xs⟩, ⟨bo, c2, ys⟩] = xs ++ ys := by simp [catR]
  have HC : Hid _ := concat_t w.heap.size 0 2 [⟨ao, c1, xs⟩, ⟨bo, c2, ys⟩] (w.alloc (.cells #[.slice ao xs.length c1, .slice bo ys.length c2] 22 (0, 0))) (by simp) (fun j hj => by
    match j, hj with
    | 0, _ => exact ⟨by rw [cell_of_row _ _ _ _ _ _ (heap_alloc_new w _)]; rfl, hx.below (al (Below.refl _ _) _), ha⟩
    | 1, _ => exact ⟨by rw [cell_of_row _ _ _ _ _ _ (heap_alloc_new w _)]; rfl, hy.below (al (Below.refl _ _) _), hb⟩) (by rw [hcat, List.length_append]; omega)
  rw [hcat, ← hn, ← hm] at HC
  have hl2 : (xs ++ ys).length ≤ 1099511627776 := by rw [List.length_append]; omega
  have HL2 : Hid _ := hl2
  clear hn hm hcat hl2
  go_enter Try.func8, Try.ntmps8
  go_wp2_with fail
  refine Calls.mono HC.out ?_
  rintro e w1 ⟨v1, rfl, hown1, hb1⟩
  have hb1' : Below w.heap.size w w1 := below_next (al (Below.refl _ _) _) hb1
  obtain ⟨a, c, hv, -, -, hc3, hrd, -⟩ := hown1.val
  obtain ⟨L, hL⟩ : ∃ L : Nat, L = (xs ++ ys).length := ⟨_, rfl⟩
  rw [← hL] at hv
  subst hv
  have HR : Hid _ := least_t a L c (xs ++ ys) w1 hL hrd hc3 (by rw [hL]; exact HL2.out)
  have HB1 : Hid (Below w.heap.size w w1) := hb1'
  clear hown1 hb1 hb1' hc3 hrd hL HC
  go_wp2_with fail
  refine Calls.mono HR.out ?_
  rintro e w3 ⟨v3, out, rfl, h1, h2, h3, h4, h5⟩
  go_wp2
  go_ret
  exact LeastOut.base ⟨v3, out, rfl, h1, h2, h3, h4, h5⟩ HB1.out
theorem add_t (ao : Option Addr) (n cap : Nat) (xs : List Rg) (i : Int) (w : World) (hn : n = xs.length) (hx : RdR w ao xs) (hl : n + 1 ≤ 1099511627776) (hi : I64 i) (ha : ao = none → cap = 0) :
    Calls Try.prog 10 #[.slice ao n cap, .int .i64 i] w fun e w' => LeastOut (addL xs i) w e w' := by
  by_cases hm : i = 9223372036854775807
  · subst hm
    have HR : Hid _ := least_t ao n cap xs w hn hx ha (by omega)
    have HA : Hid (addL xs 9223372036854775807 = xs) := by unfold Hid addL; simp
    rw [HA.out]
    clear hn hx hi
    go_enter Try.func10, Try.ntmps10
    go_wp2_with (go_at_call 6; refine Calls.mono HR.out ?_; rintro e w3 ⟨v3, out, rfl, h1, h2, h3, h4, h5⟩)
    go_ret
    exact ⟨v3, out, rfl, h1, h2, h3, h4, h5⟩
  · have HA : Hid (addL xs i = xs ++ [(i, i + 1)]) := by unfold Hid addL; simp [hm]
    rw [HA.out]
    unfold I64 at hi
    have hiw : IntKind.i64.wrap (i + 1) = i + 1 := by rw [IntKind.wrap_i64]; omega
    have HR : Hid _ := union_t ao (some ⟨w.heap.size, 0, none⟩) n 1 cap 1 xs [(i, i + 1)] _ hn rfl (hx.below (al (Below.refl _ _) _)) (rd_lit1 w (i, i + 1)) (by omega) ha (fun h => by cases h)
    clear hn hx hi
    go_enter Try.func10, Try.ntmps10
    go_wp2_with (go_at_call 8; refine Calls.mono HR.out ?_; rintro e w3 ⟨v3, out, rfl, h1, h2, h3, h4, h5⟩)
    go_ret
    exact LeastOut.base ⟨v3, out, rfl, h1, h2, h3, h4, h5⟩ (al (Below.refl _ _) _)
end
end Go.Proofs.Ytkbpdcjaimbioaa
