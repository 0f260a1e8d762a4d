import Derived.Test.YtdoikcolkbjnfaaGreatGSort
import Derived.Shelf.SlSortCmp.NoneTotal
import Derived.Lib.SliceRun
namespace Go.Proofs.YtdoikcolkbjnfaaGreat
set_option linter.unusedVariables false
set_option linter.unusedSimpArgs false
open Go.RowKit Go.Shelf Go.Sort
theorem ownR_made0 (w : World) : OwnR (w.alloc (.cells #[] 71 (0, 0))) w.heap.size (.slice (some ⟨w.heap.size, 0, none⟩) 0 0) [] := World.ownsRow_made w #[] 0 (Nat.le_refl _) (Nat.zero_le _) rfl
section
set_option maxRecDepth 20000
set_option maxHeartbeats 1600000
theorem clone_t (ao : Option Addr) (n cap : Nat) (xs : List Rg) (w : World) (hn : n = xs.length) (hx : RdR w ao xs) (ha : ao = none → cap = 0) (hl : n ≤ 1099511627776) :
    Calls Tryz.prog 103 #[.slice ao n cap] w fun e w' => ∃ v, e = .returned v ∧ OwnR w' w.heap.size v xs ∧ Below w.heap.size w w' := by
  have q22 : ∀ (w : World) (a : Option Addr) (n c n' c' : Nat), (binOp .eql 39 (.slice a n c) (.slice none n' c')).run Tryz.prog w = .ok (.bool a.isNone) w := fun w a n c n' c' => Lib.run_eql_slice_nil w _ _ a n c n' c' Tryz.underlying39
  have HN : Hid _ := hn
  clear hn
  rcases ao with _ | a
  · obtain rfl := ha rfl
    have h0 : xs = [] := by
      rcases xs with _ | ⟨y, ys⟩
      · rfl
      · obtain ⟨b, o, h1, _⟩ := hx 0 (by simp); cases h1
    subst h0
    clear ha
    go_enter Tryz.func103, Tryz.ntmps103
    go_wp2
    go_ret
    exact ⟨_, rfl, World.ownsRow_nil _ _ _ _, Below.refl _ _⟩
  · clear ha
    go_enter Tryz.func103, Tryz.ntmps103
    go_wp2_with (at_builtin; refine wp_appR rfl _ _ rfl w.heap.size _ [] xs n _ cap HN.out rfl (ownR_made0 w) rfl (hx.below (al (Below.refl _ _) _)) (fun h => by cases h) (by simpa using hl) (by simp) ?_; intro v2 w2 hown2 hg2)
    go_ret
    refine ⟨_, rfl, hown2, ?_⟩
    exact (al (Below.refl _ w) _).grown hg2 (by simp) (fun k hk => (World.ownsRow.lt (ownR_made0 w) k hk).1)
theorem sort_t (B : Nat) (v : Value) (xs : List Rg) (w : World) (h : OwnR w B v xs) (hl : xs.length ≤ 1099511627776) :
    Calls Tryz.prog 104 #[v, .func (.func 105) #[] #[]] w fun e w' => e = .returned (.tuple #[]) ∧ ∃ ys : List Rg, ys.Perm xs ∧ ys.Pairwise (fun x y => x.1 ≤ y.1) ∧ OwnR w' B v ys ∧ w.grownBy w' v.ownBlock := by
  rcases h.2 with ⟨rfl, h0⟩ | ⟨g, cap, cur, rfl, r⟩
  · obtain rfl : xs = [] := List.eq_nil_of_length_eq_zero h0
    refine (AnyF.slices_SortFunc_none Tryz.sortR none 0 (.func (.func 105) #[] #[]) w).mono ?_
    rintro e w' ⟨rfl, rfl⟩
    exact ⟨rfl, [], .refl _, List.Pairwise.nil, h, World.grownBy.refl _ _⟩
  · exact sort_s B g cap xs w h hl
end
end Go.Proofs.YtdoikcolkbjnfaaGreat
namespace Go.Proofs.YtdoikcolkbjnfaaGreat
set_option linter.unusedVariables false
set_option linter.unusedSimpArgs false
open Go.RowKit Go.Sort
theorem ownR_set {w : World} {B g cap n : Nat} {o : List Rg} {y : Rg} (hn : n = o.length + 1) (h : OwnR w B (.slice (some ⟨g, 0, none⟩) n cap) (o ++ [y])) (v : Int) :
    OwnR (w.setCell ⟨g, o.length * 2 + 1, none⟩ (.int .i64 v)) B (.slice (some ⟨g, 0, none⟩) n cap) (o ++ [(y.1, v)]) ∧ w.grownBy (w.setCell ⟨g, o.length * 2 + 1, none⟩ (.int .i64 v)) (some g) := by
  have hl : (o ++ [y]).length = n := by rw [hn]; simp
  unfold OwnR at h
  rw [hl] at h
  have h1 := World.ownsRow.stored h (o.length * 2 + 1) (.int .i64 v)
  refine ⟨?_, h1.2⟩
  unfold OwnR
  rw [show (o ++ [(y.1, v)]).length = n by rw [hn]; simp]
  have e := flatR_set (o ++ [y]) o.length (by simp) v
  have e2 : (o ++ [y]).set o.length ((o ++ [y])[o.length].1, v) = o ++ [(y.1, v)] := by
    rw [List.getElem_append_right (Nat.le_refl _), List.set_append_right _ _ (Nat.le_refl _)]
    simp
  rw [e2] at e
  rw [← e]
  exact h1.1
theorem mstep_empty {out : List Rg} {a1 a2 : Int} (h : a2 ≤ a1) : mstep out (a1, a2) = out := if_pos h
theorem mstep_nil {a1 a2 : Int} (h : ¬ a2 ≤ a1) : mstep [] (a1, a2) = [] ++ [(a1, a2)] := by unfold mstep; rw [if_neg h]; rfl
theorem mstep_in {o : List Rg} {y1 y2 a1 a2 : Int} (h : ¬ a2 ≤ a1) (h2 : a1 ≤ y2) : mstep (o ++ [(y1, y2)]) (a1, a2) = o ++ [(y1, max y2 a2)] := by unfold mstep; rw [if_neg h]; simp [h2]
theorem mstep_out {o : List Rg} {y1 y2 a1 a2 : Int} (h : ¬ a2 ≤ a1) (h2 : ¬ a1 ≤ y2) : mstep (o ++ [(y1, y2)]) (a1, a2) = o ++ [(y1, y2)] ++ [(a1, a2)] := by unfold mstep; rw [if_neg h]; simp [h2]
/-- what the loop keeps -/
def LRel (n : Nat) (ys : List Rg) (w2 : World) (ov j : Value) (wr : World) : Prop := ∃ (k : Nat) (out : List Rg), k ≤ n ∧ j = .int .i64 (k : Int) ∧ OwnR wr w2.heap.size ov out ∧ MI out (ys.take k) ∧ out.length ≤ k ∧ Below w2.heap.size w2 wr
section
set_option maxRecDepth 20000
set_option maxHeartbeats 3200000
theorem least_t (ao : Option Addr) (n cap : Nat) (xs : List Rg) (w : World) (hn : n = xs.length) (hx : RdR w ao xs) (ha : ao = none → cap = 0) (hl : n ≤ 1099511627776) :
    Calls Tryz.prog 87 #[.slice ao n cap] w fun e w' => LeastOut xs w e w' := by
  have HC : Hid _ := clone_t ao n cap xs w hn hx ha hl
  have HN : Hid (n = xs.length) := hn
  clear hn hx ha
  go_enter Tryz.func87, Tryz.ntmps87
  go_wp2_with fail
  refine Calls.mono HC.out ?_
  rintro e w1 ⟨v1, rfl, hown1, hb1⟩
  obtain ⟨a, c, hv, -, -, -, -, -⟩ := hown1.val
  rw [← HN.out] at hv
  subst hv
  have HS : Hid _ := sort_t w.heap.size _ xs w1 hown1 (by rw [← HN.out]; exact hl)
  have HLT : Hid (∀ k, (Value.slice a n c).ownBlock = some k → w.heap.size ≤ k) := fun k hk => (World.ownsRow.lt hown1 k hk).1
  clear hown1 HC
  go_wp2_with fail
  refine Calls.mono HS.out ?_
  rintro e w2 ⟨rfl, ys, hp, hso, hown2, hg2⟩
  have hb2 : Below w.heap.size w w2 := hb1.grown hg2 hb1.size HLT.out
  have hyl : n = ys.length := by rw [hp.length_eq]; exact HN.out
  obtain ⟨a', c', hv', -, -, -, hrd, -⟩ := hown2.val
  simp only [Value.slice.injEq] at hv'
  obtain ⟨rfl, -, rfl⟩ := hv'
  have HP : Hid (ys.Perm xs) := hp
  have HSO : Hid (ys.Pairwise (fun x y => x.1 ≤ y.1)) := hso
  have HB2 : Hid (Below w.heap.size w w2) := hb2
  have HY : Hid (n = ys.length) := hyl
  clear hp hso hown2 hg2 hb1 HS HLT hb2 hyl
  go_wp2_with fail
  go_loopw [4, 14] (fun ov j wr => LRel n ys w2 ov j wr) (fun _ j _ => n - (intOf j).toNat)
  case atStart => exact ⟨0, [], Nat.zero_le _, rfl, OwnR.nil _ _, MI.nil, Nat.le_refl _, Below.refl _ _⟩
  case round =>
    obtain ⟨k, out, hk, rfl, hown, hmi, hol, hbw⟩ := hrel
    have hkw : IntKind.i64.wrap ((k : Int) + 1) = ((k + 1 : Nat) : Int) := by rw [IntKind.wrap_i64]; omega
    have HO : Hid (OwnR wr w2.heap.size u4 out) := hown
    have HMI : Hid (MI out (ys.take k)) := hmi
    have hsz := hbw.size
    clear hown hmi
    by_cases hlt : k < n
    · have hk1 : k < ys.length := by rw [← HY.out]; exact hlt
      have hlti : (k : Int) < (n : Int) := by omega
      have hk0 : (0 : Int) ≤ (k : Int) := by omega
      have hxr := hrd.below hbw
      obtain ⟨b, o, rfl, -, -⟩ := hxr k hk1
      have HRG : Hid _ := hxr.range k hk1
      obtain ⟨x, hx9⟩ : ∃ x : Rg, x = ys[k] := ⟨_, rfl⟩
      rw [← hx9] at HRG
      have HTK : Hid (ys.take (k + 1) = ys.take k ++ [x]) := by unfold Hid; rw [List.take_succ_eq_append_getElem hk1, hx9]
      have HBEF : Hid (∀ z ∈ ys.take k, z.1 ≤ x.1) := fun z hz => by
        obtain ⟨i, hi, e⟩ := List.getElem_of_mem hz
        have hi2 : i < k := by simp at hi; omega
        have h9 := List.pairwise_iff_getElem.1 HSO.out i k (by omega) hk1 hi2
        rw [hx9, ← e, List.getElem_take]
        exact h9
      obtain ⟨a1, a2⟩ := x
      have hz := (zero_of_info info_rg).1
      have HST : Hid (MI (mstep out (a1, a2)) (ys.take (k + 1))) := by unfold Hid; rw [HTK.out]; exact HMI.out.step HBEF.out
      have HB : Hid (Below w2.heap.size w2 wr) := hbw
      have HLE : Hid (out.length ≤ k) := hol
      have hol9 : out.length ≤ 1099511627776 := by omega
      clear hx9 hxr hbw hol
      obtain ⟨av, cv, hvv, -, -, -, hrdo, hqo⟩ := OwnR.val HO.out
      obtain ⟨L, hL⟩ : ∃ L : Nat, L = out.length := ⟨_, rfl⟩
      rw [← hL] at hvv
      subst hvv
      have HL : Hid (L = out.length) := hL
      have hLb : L ≤ 1099511627776 := by omega
      clear hL
      by_cases h1 : a2 ≤ a1
      · have HE : Hid _ := mstep_empty (out := out) h1
        rw [HE.out] at HST
        go_wp2_with (first
          | (refine wpList_load_mid rfl 71 _ rfl b (o + k * 2) (by rfl) [.int .i64 a1, .int .i64 a2] _ HRG.out Tryz.underlying71 rfl (by rw [(zero_of_info info_rg).2]; rfl) ?_)
          | (go_at_call 107; refine (empty_t _ _ _).mono ?_; rintro e w5 ⟨rfl, hb5⟩))
        go_roundw
        case rel => exact ⟨k + 1, out, by omega, by go_num, OwnR.below (OwnR.below HO.out (al (Below.refl _ _) _)) hb5, HST.out, by have := HLE.out; omega, below_next (al HB.out _) hb5⟩
        case measure => simp [intOf]; omega
      · have h1d : decide (a2 ≤ a1) = false := by simpa using h1
        rcases List.eq_nil_or_concat out with h0 | ⟨o2, y, h0⟩
        · have HE : Hid _ := mstep_nil h1
          subst h0
          rw [HE.out] at HST
          obtain rfl : L = 0 := HL.out
          have hneg : decide ((0 : Int) ≤ -1) = false := by decide
          have hneg2 : decide ((-1 : Int) ≥ 0) = false := by decide
          go_wp2_with (first
            | (refine wpList_load_mid rfl 71 _ rfl b (o + k * 2) (by rfl) [.int .i64 a1, .int .i64 a2] _ HRG.out Tryz.underlying71 rfl (by rw [(zero_of_info info_rg).2]; rfl) ?_)
            | (go_at_call 107; refine (empty_t _ _ _).mono ?_; rintro e w5 ⟨rfl, hb5⟩; have HBX : Hid (∀ u, Below w5.heap.size w5 u → u.rangeAt wr.heap.size 0 [.int .i64 a1, .int .i64 a2]) := (fun u hu => ((rd_lit1 wr (a1, a2)).below (below_next hb5 hu)).range 0 (Nat.zero_lt_succ _)); have hs5 := hb5.size; have HO5 : Hid (∀ u, Below w5.heap.size w5 u → OwnR u w2.heap.size (.slice av 0 cv) []) := (fun u hu => OwnR.below (OwnR.below (OwnR.below HO.out (al (Below.refl _ _) _)) hb5) hu); have HB5 : Hid (Below w2.heap.size w2 w5) := below_next (al HB.out _) hb5))
          refine wp_region_noPanic ?_
          refine wp_region_held_drew (S := (fun u => Below w5.heap.size w5 u)) (by kernel_rfl) (by first | exact (Below.refl _ _).drew | assumption) (fun hHeld => ?_)
          refine tz (i := 0) 29 rfl rfl hHeld ?_
          simp only [pS]
          refine tz (i := 1) 30 rfl rfl hHeld ?_
          simp only [pS]
          refine tz (i := 2) 31 rfl rfl hHeld ?_
          simp only [pS]
          refine skip_at (i := 3) 32 rfl rfl (by kernel_rfl) (by kernel_rfl) (by kernel_rfl) (fun _ _ _ h => h) (by rfl) hHeld ?_
          simp only [pS]
          refine skip_at (i := 4) 33 rfl rfl (by kernel_rfl) (by kernel_rfl) (by kernel_rfl) (fun _ _ _ h => h) (by rfl) hHeld ?_
          simp only [pS]
          refine skip_at (i := 5) 34 rfl rfl (by kernel_rfl) (by kernel_rfl) (by kernel_rfl) (fun _ _ _ h => h) (by rfl) hHeld ?_
          simp only [pS]
          refine skip_at (i := 6) 35 rfl rfl (by kernel_rfl) (by kernel_rfl) (by kernel_rfl) (fun _ _ _ h => h) (by rfl) hHeld ?_
          simp only [pS]
          refine skip_at (i := 7) 36 rfl rfl (by kernel_rfl) (by kernel_rfl) (by kernel_rfl) (fun _ _ _ h => h) (by rfl) hHeld ?_
          simp only [pS]
          refine skip_at (i := 8) 37 rfl rfl (by kernel_rfl) (by kernel_rfl) (by kernel_rfl) (fun _ _ _ h => h) (by rfl) hHeld ?_
          simp only [pS]
          refine skip_at (i := 9) 38 rfl rfl (by kernel_rfl) (by kernel_rfl) (by kernel_rfl) (fun _ _ _ h => h) (by rfl) hHeld ?_
          simp only [pS]
          refine skip_at (i := 10) 39 rfl rfl (by kernel_rfl) (by kernel_rfl) (by kernel_rfl) (fun _ _ _ h => h) (by rfl) hHeld ?_
          simp only [pS]
          refine tz (i := 11) 40 rfl rfl hHeld ?_
          simp only [pS]
          refine tz (i := 12) 28 rfl rfl hHeld ?_
          simp only [pS]
          refine wpAnyH_done (by kernel_rfl) ?_ _
          refine NoPanic.normal ?_
          go_wp2_with (first
            | (refine wpList_load_mid rfl 71 _ rfl wr.heap.size 0 (by rfl) [.int .i64 a1, .int .i64 a2] _ (HBX.out _ (Below.refl _ _).drew) Tryz.underlying71 rfl (by rw [(zero_of_info info_rg).2]; rfl) ?_)
            | (at_builtin; refine wp_appR1 rfl _ _ rfl w2.heap.size _ [] 0 rfl (a1, a2) w5.heap.size rfl (HO5.out _ (al (Below.refl _ _).drew _)) rfl (heap_alloc_new w5.drew _) hol9 (by simp at hs5 ⊢; omega) ?_; intro g3 c3 w3 hown3 hg3 hlies3; have HB3 : Hid (Below w2.heap.size w2 w3) := (al HB5.out.drew _).grown hg3 (by simp at hs5 ⊢; omega) (fun k hk => (World.ownsRow.lt HO.out k hk).1)))
          go_roundw
          case rel => exact ⟨k + 1, [] ++ [(a1, a2)], by omega, by go_num, hown3, HST.out, by simp, HB3.out⟩
          case measure => simp [intOf]; omega
        · rw [List.concat_eq_append] at h0
          subst h0
          obtain ⟨y1, y2⟩ := y
          obtain ⟨m, hm⟩ : ∃ m : Nat, m = o2.length := ⟨_, rfl⟩
          have HM : Hid (m = o2.length) := hm
          have hLm : L = m + 1 := by rw [HL.out, hm]; simp
          have hlw : IntKind.i64.wrap ((L : Int) - 1) = (m : Int) := by rw [IntKind.wrap_i64]; omega
          have hmi : (m : Int) < (L : Int) := by omega
          have hm0 : (0 : Int) ≤ (m : Int) := by omega
          have hmg : decide ((0 : Int) ≤ (m : Int)) = true := by simp
          obtain ⟨gq, oq, rfl, -⟩ := hrdo.addr (by simp)
          obtain rfl : oq = 0 := (hqo _ rfl).1
          have HCY : Hid (∀ u, Below wr.heap.size wr u → u.cell? ⟨gq, m * 2 + 1, none⟩ = some (.int .i64 y2)) := fun u hu => by
            obtain ⟨b', o', e9, -, h9⟩ := (hrdo.below hu) m (by simp; omega)
            cases e9
            rw [Nat.zero_add] at h9
            rw [h9]
            subst hm
            simp
          have HLM : Hid (L = m + 1) := hLm
          clear hm hLm hrdo hqo
          by_cases h2 : a1 ≤ y2
          · have HE : Hid _ := mstep_in (o := o2) (y1 := y1) h1 h2
            rw [HE.out] at HST
            have h2d : decide (a1 ≤ y2) = true := by simpa using h2
            go_wp2_with (first
              | (refine wpList_load_mid rfl 71 _ rfl b (o + k * 2) (by rfl) [.int .i64 a1, .int .i64 a2] _ HRG.out Tryz.underlying71 rfl (by rw [(zero_of_info info_rg).2]; rfl) ?_)
              | (go_at_call 107; refine (empty_t _ _ _).mono ?_; rintro e w5 ⟨rfl, hb5⟩; have HBX : Hid (∀ u, Below w5.heap.size w5 u → u.rangeAt wr.heap.size 0 [.int .i64 a1, .int .i64 a2]) := (fun u hu => ((rd_lit1 wr (a1, a2)).below (below_next hb5 hu)).range 0 (Nat.zero_lt_succ _)); have hs5 := hb5.size; have HO5 : Hid (∀ u, Below w5.heap.size w5 u → OwnR u w2.heap.size (.slice (some ⟨gq, 0, none⟩) L cv) (o2 ++ [(y1, y2)])) := (fun u hu => OwnR.below (OwnR.below (OwnR.below HO.out (al (Below.refl _ _) _)) hb5) hu); have HB5 : Hid (Below w2.heap.size w2 w5) := below_next (al HB.out _) hb5))
            have hcy : ∀ u, Below w5.heap.size w5 u → u.cell? ⟨gq, m * 2 + 1, none⟩ = some (.int .i64 y2) := fun u hu => HCY.out u (below_next (below_next (al (Below.refl _ _) _) hb5) hu)
            have hbc : ∀ u, Below w5.heap.size w5 u → u.cell? ⟨wr.heap.size, 0, none⟩ = some (.int .i64 a1) := fun u hu => HBX.out u hu 0 _ rfl
            refine wp_region_noPanic ?_
            refine wp_region_held_drew (S := (fun u => Below w5.heap.size w5 u)) (by kernel_rfl) (by first | exact (Below.refl _ _).drew | assumption) (fun hHeld => ?_)
            refine tz (i := 0) 29 rfl rfl hHeld ?_
            simp only [pS]
            refine tz (i := 1) 30 rfl rfl hHeld ?_
            simp only [pS]
            refine tz (i := 2) 31 rfl rfl hHeld ?_
            simp only [pS]
            refine tz (i := 3) 32 rfl rfl hHeld ?_
            simp only [pS]
            refine tz (i := 4) 33 rfl rfl hHeld ?_
            simp only [pS]
            refine tz (i := 5) 34 rfl rfl hHeld ?_
            simp only [pS]
            refine tz (i := 6) 35 rfl rfl hHeld ?_
            simp only [pS]
            refine tz (i := 7) 36 rfl rfl hHeld ?_
            simp only [pS]
            refine tz (i := 8) 37 rfl rfl hHeld ?_
            simp only [pS]
            refine tz (i := 9) 38 rfl rfl hHeld ?_
            simp only [pS]
            refine tz (i := 10) 39 rfl rfl hHeld ?_
            simp only [pS]
            refine tz (i := 11) 40 rfl rfl hHeld ?_
            simp only [pS]
            refine tz (i := 12) 28 rfl rfl hHeld ?_
            simp only [pS]
            refine wpAnyH_done (by kernel_rfl) ?_ _
            refine NoPanic.normal ?_
            have hbd : w5.drew.drew.cell? ⟨wr.heap.size, 1, none⟩ = some (.int .i64 a2) := HBX.out _ (Below.refl _ _).drew.drew 1 _ rfl
            have hcd : w5.drew.drew.cell? ⟨gq, m * 2 + 1, none⟩ = some (.int .i64 y2) := hcy _ (Below.refl _ _).drew.drew
            have hne : (⟨gq, m * 2 + 1, none⟩ : Addr).block ≠ (⟨wr.heap.size, 1, none⟩ : Addr).block := by
              have := World.block_lt_of_cell? wr _ (HCY.out wr (Below.refl _ _))
              simp only at this ⊢
              omega
            have hfz : w5.drew.drew.frozen? ⟨gq, m * 2 + 1, none⟩ = false := ownR_cold (HO5.out _ (Below.refl _ _).drew.drew) _
            have HWR : Hid _ := ownR_set (n := L) (by rw [HLM.out, HM.out]) (HO5.out _ (Below.refl _ _)) (max y2 a2)
            rw [← HM.out] at HWR
            go_wp2_with fail
            refine wp_region_noPanic ?_
            refine wp_region_held_drew (S := (fun u => u.cell? ⟨wr.heap.size, 1, none⟩ = some (.int .i64 a2))) (by kernel_rfl) (by first | exact hbd | exact (World.cell?_setCell_far _ _ _ _ hne).trans hbd) (fun hHeld => ?_)
            refine tz (i := 0) 41 rfl rfl hHeld ?_
            simp only [pS]
            refine tz (i := 1) 42 rfl rfl hHeld ?_
            simp only [pS]
            refine tz (i := 2) 43 rfl rfl hHeld ?_
            simp only [pS]
            refine tz (i := 3) 44 rfl rfl hHeld ?_
            simp only [pS]
            refine tz (i := 4) 45 rfl rfl hHeld ?_
            simp only [pS]
            refine tz (i := 5) 46 rfl rfl hHeld ?_
            simp only [pS]
            refine tz (i := 7) 48 rfl rfl hHeld ?_
            simp only [pS]
            refine tz (i := 8) 49 rfl rfl hHeld ?_
            simp only [pS]
            refine val_at (i := 6) 47 (v := ?_) rfl rfl (by kernel_rfl) (by rfl) ?_ ?_ ?_
            rotate_left
            · (go_simp; try with_reducible rfl)
            · (first | exact hbd | exact (World.cell?_setCell_far _ _ _ _ hne).trans hbd)
            intro hHeld2
            clear hHeld
            have hHeld := hHeld2
            clear hHeld2
            simp only [pS]
            refine tz (i := 9) 50 rfl rfl hHeld ?_
            simp only [pS]
            refine tz (i := 10) 51 rfl rfl hHeld ?_
            simp only [pS]
            refine tz (i := 11) 52 rfl rfl hHeld ?_
            simp only [pS]
            refine run_at (i := 12) rfl (by kernel_rfl) (by rfl) (fun K hK => ?_)
            simp only [List.getElem_toArray, List.getElem_cons_zero, List.getElem_cons_succ]
            go_simp
            go_wp2_with fail
            refine hK.out _ _ (by first | exact hbd | exact (World.cell?_setCell_far _ _ _ _ hne).trans hbd) ?_
            clear hK K
            intro hHeld2
            clear hHeld
            have hHeld := hHeld2
            clear hHeld2
            try simp only [pS]
            refine wpAnyH_done (by kernel_rfl) ?_ _
            refine NoPanic.normal ?_
            go_wp2
            go_roundw
            case rel => exact ⟨k + 1, _, by omega, by go_num, OwnR.below HWR.out.1 (Below.refl _ _).drew.drew, HST.out, (by have := HLE.out; simp only [List.length_append, List.length_cons, List.length_nil] at this ⊢; omega), (HB5.out.grown HWR.out.2 (by simp at hs5 ⊢; omega) (fun k hk => (World.ownsRow.lt HO.out k hk).1)).drew.drew⟩
            case measure => simp [intOf]; omega
          · have HE : Hid _ := mstep_out (o := o2) (y1 := y1) h1 h2
            rw [HE.out] at HST
            have h2d : decide (a1 ≤ y2) = false := by simpa using h2
            go_wp2_with (first
              | (refine wpList_load_mid rfl 71 _ rfl b (o + k * 2) (by rfl) [.int .i64 a1, .int .i64 a2] _ HRG.out Tryz.underlying71 rfl (by rw [(zero_of_info info_rg).2]; rfl) ?_)
              | (go_at_call 107; refine (empty_t _ _ _).mono ?_; rintro e w5 ⟨rfl, hb5⟩; have HBX : Hid (∀ u, Below w5.heap.size w5 u → u.rangeAt wr.heap.size 0 [.int .i64 a1, .int .i64 a2]) := (fun u hu => ((rd_lit1 wr (a1, a2)).below (below_next hb5 hu)).range 0 (Nat.zero_lt_succ _)); have hs5 := hb5.size; have HO5 : Hid (∀ u, Below w5.heap.size w5 u → OwnR u w2.heap.size (.slice (some ⟨gq, 0, none⟩) L cv) (o2 ++ [(y1, y2)])) := (fun u hu => OwnR.below (OwnR.below (OwnR.below HO.out (al (Below.refl _ _) _)) hb5) hu); have HB5 : Hid (Below w2.heap.size w2 w5) := below_next (al HB.out _) hb5))
            have hcy : ∀ u, Below w5.heap.size w5 u → u.cell? ⟨gq, m * 2 + 1, none⟩ = some (.int .i64 y2) := fun u hu => HCY.out u (below_next (below_next (al (Below.refl _ _) _) hb5) hu)
            have hbc : ∀ u, Below w5.heap.size w5 u → u.cell? ⟨wr.heap.size, 0, none⟩ = some (.int .i64 a1) := fun u hu => HBX.out u hu 0 _ rfl
            refine wp_region_noPanic ?_
            refine wp_region_held_drew (S := (fun u => Below w5.heap.size w5 u)) (by kernel_rfl) (by first | exact (Below.refl _ _).drew | assumption) (fun hHeld => ?_)
            refine tz (i := 0) 29 rfl rfl hHeld ?_
            simp only [pS]
            refine tz (i := 1) 30 rfl rfl hHeld ?_
            simp only [pS]
            refine tz (i := 2) 31 rfl rfl hHeld ?_
            simp only [pS]
            refine tz (i := 3) 32 rfl rfl hHeld ?_
            simp only [pS]
            refine tz (i := 4) 33 rfl rfl hHeld ?_
            simp only [pS]
            refine tz (i := 5) 34 rfl rfl hHeld ?_
            simp only [pS]
            refine tz (i := 6) 35 rfl rfl hHeld ?_
            simp only [pS]
            refine tz (i := 7) 36 rfl rfl hHeld ?_
            simp only [pS]
            refine tz (i := 8) 37 rfl rfl hHeld ?_
            simp only [pS]
            refine tz (i := 9) 38 rfl rfl hHeld ?_
            simp only [pS]
            refine tz (i := 10) 39 rfl rfl hHeld ?_
            simp only [pS]
            refine tz (i := 11) 40 rfl rfl hHeld ?_
            simp only [pS]
            refine tz (i := 12) 28 rfl rfl hHeld ?_
            simp only [pS]
            refine wpAnyH_done (by kernel_rfl) ?_ _
            refine NoPanic.normal ?_
            go_wp2_with (first
              | (refine wpList_load_mid rfl 71 _ rfl wr.heap.size 0 (by rfl) [.int .i64 a1, .int .i64 a2] _ (HBX.out _ (Below.refl _ _).drew) Tryz.underlying71 rfl (by rw [(zero_of_info info_rg).2]; rfl) ?_)
              | (at_builtin; refine wp_appR1 rfl _ _ rfl w2.heap.size _ (o2 ++ [(y1, y2)]) L HL.out (a1, a2) w5.heap.size rfl (HO5.out _ (al (Below.refl _ _).drew _)) rfl (heap_alloc_new w5.drew _) hLb (by simp at hs5 ⊢; omega) ?_; intro g3 c3 w3 hown3 hg3 hlies3; have HB3 : Hid (Below w2.heap.size w2 w3) := (al HB5.out.drew _).grown hg3 (by simp at hs5 ⊢; omega) (fun k hk => (World.ownsRow.lt HO.out k hk).1)))
            go_roundw
            case rel => exact ⟨k + 1, o2 ++ [(y1, y2)] ++ [(a1, a2)], by omega, by go_num, hown3, HST.out, by have := HLE.out; simp only [List.length_append, List.length_cons, List.length_nil] at this ⊢; omega, HB3.out⟩
            case measure => simp [intOf]; omega
    · have hlti : ¬ (k : Int) < (n : Int) := by omega
      have HF : Hid (MI out ys) := by
        have h9 := HMI.out
        rw [List.take_of_length_le (by rw [← HY.out]; omega)] at h9
        exact h9
      go_wp2
      go_ret
      exact ⟨_, out, rfl, OwnR.base HO.out HB2.out.size, HF.out.lst, fun i => by rw [HF.out.has i, hasR_perm HP.out i], by have := HN.out; omega, below_next HB2.out hbw⟩
end
end Go.Proofs.YtdoikcolkbjnfaaGreat
