import Derived.Test.YtkbpdcjaimbioaaGEnd
namespace Go.Proofs.Ytkbpdcjaimbioaa
set_option linter.unusedVariables false
set_option linter.unusedSimpArgs false
open Go.RowKit
theorem cntR_le (l : List Rg) (a : Int) : cntR l a ≤ l.length := List.countP_le_length
def LeastOut (xs : List Rg) (w : World) (e : Ending) (w' : World) : Prop := ∃ (v : Value) (out : List Rg), e = .returned v ∧ OwnR w' w.heap.size v out ∧ Lst out ∧ (∀ i, hasR out i ↔ hasR xs i) ∧ out.length ≤ xs.length ∧ Below w.heap.size w w'
def okN (l : List Rg) : Value → Value → Nat
  | f, .bool true => cntR l (intOf f) + 1
  | _, _ => 0
theorem okN_t (l : List Rg) (f : Int) : okN l (.int .i64 f) (.bool true) = cntR l f + 1 := rfl
theorem okN_f (l : List Rg) (f : Int) : okN l (.int .i64 f) (.bool false) = 0 := rfl
theorem LI.start {xs : List Rg} (h : RI xs) : LI xs [] (-9223372036854775808) := ⟨Lst.nil, by simp, (fun h => absurd rfl h), fun i hi => ⟨fun h9 => absurd h9 (hasR_nil i), fun ⟨x, hx, h1, _⟩ => by have := (h x hx).1.1; omega⟩⟩
section
set_option maxRecDepth 20000
set_option maxHeartbeats 1600000
theorem rleast_t (ao : Option Addr) (n cap : Nat) (xs : List Rg) (w : World) (hn : n = xs.length) (hx : RdR w ao xs) (hl : n ≤ 1099511627776) (hri : RI xs) :
    Calls Try.prog 7 #[.slice ao n cap] w fun e w' => LeastOut xs w e w' := by
  have hnx : ∀ (a : Int) (u : World), Below w.heap.size w u → Calls Try.prog 25 #[.slice ao n cap, .int .i64 a] u fun e w' => NextOut xs a u e w' := fun a u hu => next_t ao n cap xs a u hn (hx.below hu) hl
  have hen : ∀ (a : Int) (u : World), Below w.heap.size w u → Calls Try.prog 26 #[.slice ao n cap, .int .i64 a] u fun e w' => ∃ f : Int, e = .returned (.int .i64 f) ∧ EndS xs a f ∧ Below u.heap.size u w' := fun a u hu => end_t ao n cap xs a u hn (hx.below hu) hl
  have HNX : Hid _ := hnx
  have HEN : Hid _ := hen
  have HN : Hid _ := hn
  have HRI : Hid _ := hri
  clear hn hnx hen hri
  go_enter Try.func7, Try.ntmps7
  go_wp2_with (go_at_call 25; refine (HNX.out _ _ (Below.refl _ _)).mono ?_; rintro e w1 ⟨f1, ok1, rfl, hns1, hb1⟩; have HS1 : Hid _ := hns1; clear hns1)
  go_loopw [3, 4, 5] (fun ov fv kv wr => ∃ (out : List Rg) (f A : Int) (ok : Bool), fv = .int .i64 f ∧ kv = .bool ok ∧ OwnR wr w.heap.size ov out ∧ LI xs out A ∧ NextS xs A f ok ∧ out.length + cntR xs A ≤ n ∧ Below w.heap.size w wr) (fun _ fv kv _ => okN xs fv kv)
  case atStart => exact ⟨[], f1, _, ok1, rfl, rfl, OwnR.nil _ _, LI.start HRI.out, HS1.out, by have := cntR_le xs (-9223372036854775808); have := HN.out; simp; omega, hb1⟩
  case round =>
    clear hb1 HS1
    obtain ⟨out, f, A, ok, rfl, rfl, hown, hli, hns, hct, hbw⟩ := hrel
    have HLI : Hid _ := hli
    have HNS : Hid _ := hns
    have HCT : Hid _ := hct
    have HO : Hid _ := hown
    have HB : Hid _ := hbw
    have hsz := hbw.size
    have hol : out.length ≤ 1099511627776 := by omega
    clear hli hns hct hbw
    cases ok
    · go_wp2
      go_ret
      obtain ⟨h1, h2⟩ := HLI.out.done HNS.out
      exact ⟨_, out, rfl, hown, h1, h2, by have := HCT.out; have := HN.out; omega, HB.out⟩
    · go_wp2_with (first
        | (go_at_call 26; refine (HEN.out _ _ HB.out).mono ?_; rintro e w2 ⟨f2, rfl, hes, hb2⟩; have HES : Hid _ := hes; clear hes; have hs2 := hb2.size)
        | (at_builtin; refine wp_app1 rfl _ _ rfl w.heap.size _ out out.length rfl (f, f2) w2.heap.size rfl (OwnR.below (OwnR.below HO.out hb2) (al (Below.refl _ _) _)) rfl (heap_alloc_new w2 _) hol (by simp; omega) ?_; intro g3 c3 w3 hown3 hg3 hlies3; have HB3 : Hid (Below w.heap.size w w3) := (al (below_next HB.out hb2) _).grown hg3 (by simp; omega) (fun k hk => (World.ownsRow.lt HO.out k hk).1))
        | (go_at_call 25; refine (HNX.out _ _ HB3.out).mono ?_; rintro e w4 ⟨f4, ok4, rfl, hns4, hb4⟩; have HS4 : Hid _ := hns4; clear hns4))
      have HK : Hid _ := HLI.out.step HNS.out HES.out
      have HCM : Hid _ := cntR_mono xs HNS.out.1
      have HCN : Hid (ok4 = true → cntR xs f4 ≤ cntR xs f2) := fun e => by subst e; exact cntR_mono xs HS4.out.1
      go_roundw
      case rel =>
        refine ⟨out ++ [(f, f2)], f4, f2, ok4, rfl, rfl, ?_, HK.out.1, HS4.out, ?_, below_next HB3.out hb4⟩
        · have h9 := hown3.below hb4
          exact h9
        · have h1 := HK.out.2
          have h2 := HCT.out
          have h3 := HCM.out
          simp only [List.length_append, List.length_cons, List.length_nil]
          omega
      case measure =>
        rw [okN_t]
        cases ok4
        · rw [okN_f]; omega
        · rw [okN_t]
          have h1 := HK.out.2
          have h2 := HCN.out rfl
          omega
end
end Go.Proofs.Ytkbpdcjaimbioaa
