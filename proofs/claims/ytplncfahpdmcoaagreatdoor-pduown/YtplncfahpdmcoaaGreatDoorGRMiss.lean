import Derived.Test.YtplncfahpdmcoaaGreatDoorGTot
namespace Go.Proofs.YtplncfahpdmcoaaGreatDoor
set_option linter.unusedVariables false
set_option linter.unusedSimpArgs false
open Go.RowKit
def MissOut (xs : List Rg) (m : Int) (w : World) (e : Ending) (w' : World) : Prop := ∃ (v : Value) (out : List Rg), e = .returned v ∧ OwnR w' w.heap.size v out ∧ MissS xs out m ∧ out.length ≤ xs.length + 1 ∧ Below w.heap.size w w'
theorem gapped_yes {out : List Rg} {a f : Int} (h : a < f) : gapped out a f = out ++ [(a, f)] := if_pos h
theorem gapped_no {out : List Rg} {a f : Int} (h : ¬ a < f) : gapped out a f = out := if_neg h
section
set_option maxRecDepth 20000
set_option maxHeartbeats 1600000
theorem rmissing_t (ao : Option Addr) (n cap : Nat) (xs : List Rg) (m : Int) (w : World) (hn : n = xs.length) (hx : RdR w ao xs) (hl : n ≤ 1000000000000) :
    Calls Tryz.prog 16 #[.slice ao n cap, .int .i64 m] w fun e w' => MissOut xs m w e w' := by
  have hnx : ∀ (a : Int) (u : World), Below w.heap.size w u → Calls Tryz.prog 37 #[.slice ao n cap, .int .i64 a] u fun e w' => NextOut xs a u e w' := fun a u hu => next_t ao n cap xs a u hn (hx.below hu) (by omega)
  have hen : ∀ (a : Int) (u : World), Below w.heap.size w u → Calls Tryz.prog 38 #[.slice ao n cap, .int .i64 a] u fun e w' => ∃ f : Int, e = .returned (.int .i64 f) ∧ EndS xs a f ∧ Below u.heap.size u w' := fun a u hu => end_t ao n cap xs a u hn (hx.below hu) (by omega)
  have HNX : Hid _ := hnx
  have HEN : Hid _ := hen
  have HN : Hid _ := hn
  clear hn hnx hen
  go_enter Tryz.func16, Tryz.ntmps16
  go_wp2
  go_loopw [5, 6] (fun ov av wr => ∃ (out : List Rg) (a : Int), av = .int .i64 a ∧ OwnR wr w.heap.size ov out ∧ NI xs out m a ∧ out.length + cntR xs a ≤ n ∧ Below w.heap.size w wr) (fun _ av _ => cntR xs (intOf av))
  case atStart => exact ⟨[], 0, rfl, OwnR.nil _ _, NI.start _ _, by have := cntR_le xs 0; have := HN.out; simp; omega, Below.refl _ _⟩
  case round =>
    obtain ⟨out, a, rfl, hown, hni, hct, hbw⟩ := hrel
    have HNI : Hid (NI xs out m a) := hni
    have HCT : Hid (out.length + cntR xs a ≤ n) := hct
    have HO : Hid _ := hown
    have HB : Hid _ := hbw
    have hsz := hbw.size
    have hol : out.length ≤ 1099511627776 := by omega
    clear hni hct hbw
    by_cases ham : a < m
    · go_wp2_with fail
      refine Calls.mono (HNX.out _ _ HB.out) ?_
      rintro e w2 ⟨f, ok, rfl, hns, hb2⟩
      have HNS : Hid (NextS xs a f ok) := hns
      have hs2 := hb2.size
      clear hns
      by_cases hcase : ok = true ∧ f < m
      · obtain ⟨rfl, hfm⟩ := hcase
        have hfm2 : ¬ m < f := by omega
        have hfm3 : ¬ m ≤ f := by omega
        have hab := HNS.out.1
        by_cases haf : a < f
        · go_wp2_with (first
            | (at_builtin; refine wp_appR1 rfl _ _ rfl w.heap.size _ out out.length rfl (a, f) w2.heap.size rfl (OwnR.below (OwnR.below HO.out hb2) (al (Below.refl _ _) _)) rfl (heap_alloc_new w2 _) hol (by simp; omega) ?_; intro g3 c3 w3 hown3 hg3 hlies3; have HB3 : Hid (Below w.heap.size w w3) := (al (below_next HB.out hb2) _).grown hg3 (by simp; omega) (fun k hk => (World.ownsRow.lt HO.out k hk).1))
            | (go_at_call 38; refine (HEN.out _ _ HB3.out).mono ?_; rintro e w4 ⟨f4, rfl, hes4, hb4⟩; have HES : Hid _ := hes4; clear hes4))
          have HK : Hid _ := HNI.out.step HNS.out (by omega) HES.out
          rw [gapped_yes haf] at HK
          go_roundw
          case rel =>
            refine ⟨out ++ [(a, f)], f4, rfl, OwnR.below hown3 hb4, HK.out.1, ?_, below_next HB3.out hb4⟩
            have h1 := HK.out.2
            have h2 := HCT.out
            simp only [List.length_append, List.length_cons, List.length_nil]
            omega
          case measure => exact HK.out.2
        · go_wp2_with (go_at_call 38; refine (HEN.out _ _ (below_next HB.out hb2)).mono ?_; rintro e w4 ⟨f4, rfl, hes4, hb4⟩; have HES : Hid _ := hes4; clear hes4)
          have HK : Hid _ := HNI.out.step HNS.out (by omega) HES.out
          rw [gapped_no (by omega)] at HK
          go_roundw
          case rel =>
            refine ⟨out, f4, rfl, OwnR.below (OwnR.below HO.out hb2) hb4, HK.out.1, ?_, below_next (below_next HB.out hb2) hb4⟩
            have h1 := HK.out.2
            have h2 := HCT.out
            omega
          case measure => exact HK.out.2
      · have HNO : Hid (∀ i, a ≤ i → i < m → ¬ hasR xs i) := fun i h1 h2 => by
          have h9 := HNS.out
          cases ok
          · exact h9 i h1
          · exact h9.2.2 i h1 (by simp at hcase; omega)
        have HLAST : Hid _ := HNI.out.last HNO.out
        rw [gapped_yes ham] at HLAST
        have HEND : Hid (∀ (g3 c3 : Nat) (w3 : World), OwnR w3 w.heap.size (.slice (some ⟨g3, 0, none⟩) (out.length + 1) c3) (out ++ [(a, m)]) → (w2.alloc (.cells #[.int .i64 a, .int .i64 m] 43 (0, 0))).grownBy w3 (u5.ownBlock) → MissOut xs m w (.returned (.slice (some ⟨g3, 0, none⟩) (out.length + 1) c3)) w3) := fun g3 c3 w3 h1 h2 =>
          ⟨_, _, rfl, h1, HLAST.out, by have := HCT.out; have := HN.out; simp only [List.length_append, List.length_cons, List.length_nil]; omega, (al (below_next HB.out hb2) _).grown h2 (by simp; omega) (fun k hk => (World.ownsRow.lt HO.out k hk).1)⟩
        have hmm : ¬ m < m := by omega
        cases ok
        · clear hcase
          go_wp2_with (at_builtin; refine wp_appR1 rfl _ _ rfl w.heap.size _ out out.length rfl (a, m) w2.heap.size rfl (OwnR.below (OwnR.below HO.out hb2) (al (Below.refl _ _) _)) rfl (heap_alloc_new w2 _) hol (by simp; omega) ?_; intro g3 c3 w3 hown3 hg3 hlies3)
          go_ret
          exact HEND.out g3 c3 w3 hown3 hg3
        · by_cases hmf : m < f
          · clear hcase
            go_wp2_with (at_builtin; refine wp_appR1 rfl _ _ rfl w.heap.size _ out out.length rfl (a, m) w2.heap.size rfl (OwnR.below (OwnR.below HO.out hb2) (al (Below.refl _ _) _)) rfl (heap_alloc_new w2 _) hol (by simp; omega) ?_; intro g3 c3 w3 hown3 hg3 hlies3)
            go_ret
            exact HEND.out g3 c3 w3 hown3 hg3
          · obtain rfl : f = m := by simp at hcase; omega
            clear hcase
            go_wp2_with (at_builtin; refine wp_appR1 rfl _ _ rfl w.heap.size _ out out.length rfl (a, f) w2.heap.size rfl (OwnR.below (OwnR.below HO.out hb2) (al (Below.refl _ _) _)) rfl (heap_alloc_new w2 _) hol (by simp; omega) ?_; intro g3 c3 w3 hown3 hg3 hlies3)
            go_ret
            exact HEND.out g3 c3 w3 hown3 hg3
    · go_wp2
      go_ret
      exact ⟨_, out, rfl, hown, HNI.out.over (by omega), by have := HCT.out; have := HN.out; omega, HB.out⟩
end
end Go.Proofs.YtplncfahpdmcoaaGreatDoor
