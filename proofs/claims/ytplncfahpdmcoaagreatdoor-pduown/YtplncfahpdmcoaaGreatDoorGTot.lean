import Derived.Test.YtplncfahpdmcoaaGreatDoorGEnd
namespace Go.Proofs.YtplncfahpdmcoaaGreatDoor
set_option linter.unusedVariables false
set_option linter.unusedSimpArgs false
open Go.RowKit
theorem cntR_le (l : List Rg) (a : Int) : cntR l a ≤ l.length := List.countP_le_length
def LeastOut (xs : List Rg) (w : World) (e : Ending) (w' : World) : Prop := ∃ (v : Value) (out : List Rg), e = .returned v ∧ OwnR w' w.heap.size v out ∧ Lst out ∧ (∀ i, hasR out i ↔ hasR xs i) ∧ out.length ≤ xs.length ∧ Below w.heap.size w w'
def okN (l : List Rg) : Value → Value → Nat
  | f, .bool true => cntR l (intOf f) + 1
  | _, _ => 0
theorem okN_t (l : List Rg) (f : Int) : okN l (.int .i64 f) (.bool true) = cntR l f + 1 := rfl
theorem okN_f (l : List Rg) (f : Int) : okN l (.int .i64 f) (.bool false) = 0 := rfl
theorem LI.start {xs : List Rg} (h : RI xs) : LI xs [] (-9223372036854775808) := ⟨Lst.nil, by simp, (fun h => absurd rfl h), fun i hi => ⟨fun h9 => absurd h9 (hasR_nil i), fun ⟨x, hx, h1, _⟩ => by have := (h x hx).1.1; omega⟩⟩
section
set_option maxRecDepth 20000
set_option maxHeartbeats 1600000
theorem rleast_t (ao : Option Addr) (n cap : Nat) (xs : List Rg) (w : World) (hn : n = xs.length) (hx : RdR w ao xs) (hl : n ≤ 1099511627776) (hri : RI xs) :
    Calls Tryz.prog 13 #[.slice ao n cap] w fun e w' => LeastOut xs w e w' := by
  have hnx : ∀ (a : Int) (u : World), Below w.heap.size w u → Calls Tryz.prog 37 #[.slice ao n cap, .int .i64 a] u fun e w' => NextOut xs a u e w' := fun a u hu => next_t ao n cap xs a u hn (hx.below hu) hl
  have hen : ∀ (a : Int) (u : World), Below w.heap.size w u → Calls Tryz.prog 38 #[.slice ao n cap, .int .i64 a] u fun e w' => ∃ f : Int, e = .returned (.int .i64 f) ∧ EndS xs a f ∧ Below u.heap.size u w' := fun a u hu => end_t ao n cap xs a u hn (hx.below hu) hl
  have HNX : Hid _ := hnx
  have HEN : Hid _ := hen
  have HN : Hid _ := hn
  have HRI : Hid _ := hri
  clear hn hnx hen hri
  go_enter Tryz.func13, Tryz.ntmps13
  go_wp2_with (go_at_call 37; refine (HNX.out _ _ (Below.refl _ _)).mono ?_; rintro e w1 ⟨f1, ok1, rfl, hns1, hb1⟩; have HS1 : Hid _ := hns1; clear hns1)
  go_loopw [3, 4, 5] (fun ov fv kv wr => ∃ (out : List Rg) (f A : Int) (ok : Bool), fv = .int .i64 f ∧ kv = .bool ok ∧ OwnR wr w.heap.size ov out ∧ LI xs out A ∧ NextS xs A f ok ∧ out.length + cntR xs A ≤ n ∧ Below w.heap.size w wr) (fun _ fv kv _ => okN xs fv kv)
  case atStart => exact ⟨[], f1, _, ok1, rfl, rfl, OwnR.nil _ _, LI.start HRI.out, HS1.out, by have := cntR_le xs (-9223372036854775808); have := HN.out; simp; omega, hb1⟩
  case round =>
    clear hb1 HS1
    obtain ⟨out, f, A, ok, rfl, rfl, hown, hli, hns, hct, hbw⟩ := hrel
    have HLI : Hid _ := hli
    have HNS : Hid _ := hns
    have HCT : Hid _ := hct
    have HO : Hid _ := hown
    have HB : Hid _ := hbw
    have hsz := hbw.size
    have hol : out.length ≤ 1099511627776 := by omega
    clear hli hns hct hbw
    cases ok
    · go_wp2
      go_ret
      obtain ⟨h1, h2⟩ := HLI.out.done HNS.out
      exact ⟨_, out, rfl, hown, h1, h2, by have := HCT.out; have := HN.out; omega, HB.out⟩
    · go_wp2_with (first
        | (go_at_call 38; refine (HEN.out _ _ HB.out).mono ?_; rintro e w2 ⟨f2, rfl, hes, hb2⟩; have HES : Hid _ := hes; clear hes; have hs2 := hb2.size)
        | (at_builtin; refine wp_appR1 rfl _ _ rfl w.heap.size _ out out.length rfl (f, f2) w2.heap.size rfl (OwnR.below (OwnR.below HO.out hb2) (al (Below.refl _ _) _)) rfl (heap_alloc_new w2 _) hol (by simp; omega) ?_; intro g3 c3 w3 hown3 hg3 hlies3; have HB3 : Hid (Below w.heap.size w w3) := (al (below_next HB.out hb2) _).grown hg3 (by simp; omega) (fun k hk => (World.ownsRow.lt HO.out k hk).1))
        | (go_at_call 37; refine (HNX.out _ _ HB3.out).mono ?_; rintro e w4 ⟨f4, ok4, rfl, hns4, hb4⟩; have HS4 : Hid _ := hns4; clear hns4))
      have HK : Hid _ := HLI.out.step HNS.out HES.out
      have HCM : Hid _ := cntR_mono xs HNS.out.1
      have HCN : Hid (ok4 = true → cntR xs f4 ≤ cntR xs f2) := fun e => by subst e; exact cntR_mono xs HS4.out.1
      go_roundw
      case rel =>
        refine ⟨out ++ [(f, f2)], f4, f2, ok4, rfl, rfl, ?_, HK.out.1, HS4.out, ?_, below_next HB3.out hb4⟩
        · have h9 := hown3.below hb4
          exact h9
        · have h1 := HK.out.2
          have h2 := HCT.out
          have h3 := HCM.out
          simp only [List.length_append, List.length_cons, List.length_nil]
          omega
      case measure =>
        rw [okN_t]
        cases ok4
        · rw [okN_f]; omega
        · rw [okN_t]
          have h1 := HK.out.2
          have h2 := HCN.out rfl
          omega
end
end Go.Proofs.YtplncfahpdmcoaaGreatDoor
namespace Go.Proofs.YtplncfahpdmcoaaGreatDoor
set_option linter.unusedVariables false
set_option linter.unusedSimpArgs false
open Go.RowKit
theorem RI.app {l m : List Rg} (h1 : RI l) (h2 : RI m) : RI (l ++ m) := fun x hx => by
  rcases List.mem_append.1 hx with h | h
  · exact h1 x h
  · exact h2 x h
def addL (l : List Rg) (i : Int) : List Rg := if i = 9223372036854775807 then l else l ++ [(i, i + 1)]
theorem LeastOut.base {xs : List Rg} {w0 w : World} {e : Ending} {w' : World} (h : LeastOut xs w e w') (hb : Below w0.heap.size w0 w) : LeastOut xs w0 e w' := by
  obtain ⟨v, out, h1, h2, h3, h4, h5, h6⟩ := h
  exact ⟨v, out, h1, h2.base hb.size, h3, h4, h5, below_next hb h6⟩
section
set_option maxRecDepth 20000
set_option maxHeartbeats 1600000
theorem runion_t (ao bo : Option Addr) (n m c1 c2 : Nat) (xs ys : List Rg) (w : World) (hn : n = xs.length) (hm : m = ys.length) (hx : RdR w ao xs) (hy : RdR w bo ys) (hl : n + m ≤ 1099511627776) (h1 : RI xs) (h2 : RI ys) (ha : ao = none → c1 = 0) (hb : bo = none → c2 = 0) :
    Calls Tryz.prog 14 #[.slice ao n c1, .slice bo m c2] w fun e w' => LeastOut (xs ++ ys) w e w' := by
  have HRI : Hid _ := RI.app h1 h2
  have HN : Hid _ := hn
  have HM : Hid _ := hm
  have hl2 : xs.length + ys.length ≤ 1099511627776 := by omega
  have HL2 : Hid _ := hl2
  clear h1 h2 hn hm hl2
  go_enter Tryz.func14, Tryz.ntmps14
  go_wp2_with (first
    | (at_builtin; refine wp_appR rfl _ _ rfl w.heap.size _ [] xs n ao c1 HN.out rfl (OwnR.nil _ _) rfl hx ha (by simp; omega) (Nat.le_refl _) ?_; intro v1 w1 hown1 hg1; have hb1 : Below w.heap.size w w1 := (Below.refl _ _).grown hg1 (Nat.le_refl _) (fun k hk => by cases hk); have hs1 := hb1.size; rw [List.nil_append] at hown1; have HO1 : Hid (OwnR w1 w.heap.size v1 xs) := hown1; clear hown1)
    | (at_builtin; refine wp_appR rfl _ _ rfl w.heap.size v1 xs ys m bo c2 HM.out rfl HO1.out rfl (hy.below hb1) hb (by have := HN.out; omega) hs1 ?_; intro v2 w2 hown2 hg2; have hb2 : Below w.heap.size w w2 := hb1.grown hg2 hs1 (fun k hk => (World.ownsRow.lt HO1.out k hk).1); obtain ⟨a, c, hv, hc1, hc2, hc3, hrd, hq⟩ := hown2.val; obtain ⟨L, hL⟩ : ∃ L : Nat, L = (xs ++ ys).length := ⟨_, rfl⟩; rw [← hL] at hv; subst hv; have HLL : Hid (L ≤ 1099511627776) := by unfold Hid; rw [hL, List.length_append]; exact HL2.out
       have HR : Hid _ := rleast_t a L c (xs ++ ys) w2 hL hrd HLL.out HRI.out
       have HB2 : Hid _ := hb2; clear hown2 hrd hq hL hc1 hc2 hc3 hg1 hg2)
    | (go_at_call 13; refine Calls.mono HR.out ?_; rintro e w3 ⟨v3, out, rfl, h1, h2, h3, h4, h5⟩))
  go_ret
  exact LeastOut.base ⟨v3, out, rfl, h1, h2, h3, h4, h5⟩ HB2.out
theorem radd_t (ao : Option Addr) (n cap : Nat) (xs : List Rg) (i : Int) (w : World) (hn : n = xs.length) (hx : RdR w ao xs) (hl : n + 1 ≤ 1099511627776) (h1 : RI xs) (hi : I64 i) (ha : ao = none → cap = 0) :
    Calls Tryz.prog 15 #[.slice ao n cap, .int .i64 i] w fun e w' => LeastOut (addL xs i) w e w' := by
  by_cases hm : i = 9223372036854775807
  · subst hm
    have HR : Hid _ := rleast_t ao n cap xs w hn hx (by omega) h1
    have HA : Hid (addL xs 9223372036854775807 = xs) := by unfold Hid addL; simp
    rw [HA.out]
    clear hn hx h1 hi
    go_enter Tryz.func15, Tryz.ntmps15
    go_wp2_with (go_at_call 13; refine Calls.mono HR.out ?_; rintro e w3 ⟨v3, out, rfl, h1, h2, h3, h4, h5⟩)
    go_ret
    exact ⟨v3, out, rfl, h1, h2, h3, h4, h5⟩
  · have HA : Hid (addL xs i = xs ++ [(i, i + 1)]) := by unfold Hid addL; simp [hm]
    rw [HA.out]
    unfold I64 at hi
    have hiw : IntKind.i64.wrap (i + 1) = i + 1 := by rw [IntKind.wrap_i64]; omega
    have HR : Hid _ := runion_t ao (some ⟨w.heap.size, 0, none⟩) n 1 cap 1 xs [(i, i + 1)] _ hn rfl (hx.below (al (Below.refl _ _) _)) (rd_lit1 w (i, i + 1)) (by omega) h1 (fun x hx => by rw [List.mem_singleton.1 hx]; constructor <;> (unfold I64; constructor <;> simp only <;> omega)) ha (fun h => by cases h)
    clear hn hx h1 hi
    go_enter Tryz.func15, Tryz.ntmps15
    go_wp2_with (go_at_call 14; refine Calls.mono HR.out ?_; rintro e w3 ⟨v3, out, rfl, h1, h2, h3, h4, h5⟩)
    go_ret
    exact LeastOut.base ⟨v3, out, rfl, h1, h2, h3, h4, h5⟩ (al (Below.refl _ _) _)
end
end Go.Proofs.YtplncfahpdmcoaaGreatDoor
namespace Go.Proofs.YtplncfahpdmcoaaGreatDoor
set_option linter.unusedVariables false
set_option linter.unusedSimpArgs false
open Go.RowKit
theorem sumU_snoc : ∀ (l : List Rg) (s : Int) (x : Rg), sumU s (l ++ [x]) = (sumU s l + (x.2 - x.1)) % 18446744073709551616
  | [], s, x => rfl
  | y :: l, s, x => sumU_snoc l _ x
theorem sumU_in : ∀ (l : List Rg) (s : Int), 0 ≤ s ∧ s < 18446744073709551616 → 0 ≤ sumU s l ∧ sumU s l < 18446744073709551616
  | [], s, h => h
  | y :: l, s, h => sumU_in l _ (by omega)
def totI (s : Int) : Int := if s > 9223372036854775807 then 9223372036854775807 else s
def TotOut (xs : List Rg) (w : World) (e : Ending) (w' : World) : Prop := ∃ out : List Rg, Lst out ∧ (∀ i, hasR out i ↔ hasR xs i) ∧ e = .returned (.int .i64 (totI (sumU 0 out))) ∧ Below w.heap.size w w'
theorem wrap_sub1 (s x1 x2 : Int) : IntKind.u64.wrap (IntKind.u64.wrap (s + IntKind.u64.wrap x2) - IntKind.u64.wrap x1) = (s + (x2 - x1)) % 18446744073709551616 := by
  simp only [IntKind.wrap_u64]
  omega
theorem wrap_sub2 (s x1 x2 : Int) : IntKind.u64.wrap (s + IntKind.u64.wrap (IntKind.u64.wrap x2 - IntKind.u64.wrap x1)) = (s + (x2 - x1)) % 18446744073709551616 := by
  simp only [IntKind.wrap_u64]
  omega
section
set_option maxRecDepth 20000
set_option maxHeartbeats 1600000
end
end Go.Proofs.YtplncfahpdmcoaaGreatDoor
