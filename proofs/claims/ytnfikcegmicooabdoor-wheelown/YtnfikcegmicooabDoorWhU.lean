import Derived.Test.YtnfikcegmicooabDoorWhT
namespace Go.Proofs.YtnfikcegmicooabDoor
set_option linter.unusedVariables false
set_option linter.unusedSimpArgs false
open Go.RowKit Go.Maps
/-- what Next answers -/
def NextIs (L : List Tm) (n : Nat) (b : Bool) : Prop := (b = false ∧ n = 0 ∧ ∀ t, t ∈ L → ¬ t.at_ ≤ mxN) ∨ (b = true ∧ (∃ t, t ∈ L ∧ t.at_ ≤ mxN ∧ t.at_ = n) ∧ ∀ t, t ∈ L → t.at_ ≤ mxN → n ≤ t.at_)
theorem NextIs.uniq {L : List Tm} {n n' : Nat} {b b' : Bool} (h : NextIs L n b) (h' : NextIs L n' b') : n = n' ∧ b = b' := by
  rcases h with ⟨rfl, rfl, h1⟩ | ⟨rfl, ⟨t, h1, h2, h3⟩, h4⟩
  · rcases h' with ⟨rfl, rfl, h2⟩ | ⟨rfl, ⟨t, h2, h3, -⟩, -⟩
    · exact ⟨rfl, rfl⟩
    · exact absurd h3 (h1 t h2)
  · rcases h' with ⟨rfl, rfl, h5⟩ | ⟨rfl, ⟨u, h5, h6, h7⟩, h8⟩
    · exact absurd h2 (h5 t h1)
    · have := h4 u h5 h6
      have := h8 t h1 h2
      exact ⟨by omega, rfl⟩
section
variable {w w' : World} {p m N S : Nat} {L : List Tm} {F : Nat → Nat → List Tm} {V : Nat → Nat → Value} {K : List Int} {X : Int → Pl}
theorem next_found (hr : RepP N (fun t => t ∈ L) F X) (ho : Ord N S L) {k s n : Nat} (hk : k < 8) (hs : s < 64) (h1 : ∀ k', k' < k → ∀ s', s' < 64 → F k' s' = []) (h2 : ∀ s', s' < s → F k s' = []) (h3 : LeastIs (F k s) n) : NextIs L n true := by
  obtain ⟨⟨t, ht, hn⟩, hall⟩ := h3
  obtain ⟨htL, htk, hts⟩ := (hr.mem k s t hk hs).1 ht
  have htm : t.at_ ≤ mxN := by
    apply Classical.byContradiction
    intro h9
    have := (ho.lev8 htL).2 h9
    omega
  refine .inr ⟨rfl, ⟨t, htL, htm, hn⟩, fun u hu hum => ?_⟩
  have hul := (ho.lev8 hu).1 hum
  have hus := slt_lt u.at_ (lev u.at_ N)
  have huF : u ∈ F (lev u.at_ N) (slt u.at_ (lev u.at_ N)) := (hr.mem _ _ u hul hus).2 ⟨hu, rfl, rfl⟩
  have hk1 : k ≤ lev u.at_ N := by
    apply Classical.byContradiction
    intro h9
    rw [h1 _ (by omega) _ hus] at huF
    cases huF
  by_cases e : lev u.at_ N = k
  · rw [e] at huF
    have hs1 : s ≤ slt u.at_ k := by
      apply Classical.byContradiction
      intro h9
      rw [h2 _ (by omega)] at huF
      cases huF
    by_cases e2 : slt u.at_ k = s
    · rw [e2] at huF
      exact hall u huF
    · have := slt_less (n := N) (ho.ats t htL).1 (ho.ats u hu).1 (by rw [htk, e]) (by rw [htk, hts]; omega)
      omega
  · have := lev_less (n := N) (ho.ats t htL).1 (ho.ats u hu).1 (by omega)
    omega
theorem next_none (hr : RepP N (fun t => t ∈ L) F X) (ho : Ord N S L) (h1 : ∀ k', k' < 8 → ∀ s', s' < 64 → F k' s' = []) : NextIs L 0 false := by
  refine .inl ⟨rfl, rfl, fun u hu hum => ?_⟩
  have hul := (ho.lev8 hu).1 hum
  have hus := slt_lt u.at_ (lev u.at_ N)
  have huF : u ∈ F (lev u.at_ N) (slt u.at_ (lev u.at_ N)) := (hr.mem _ _ u hul hus).2 ⟨hu, rfl, rfl⟩
  rw [h1 _ hul _ hus] at huF
  cases huF
set_option maxRecDepth 20000 in
set_option maxHeartbeats 1600000 in
theorem next_t (h : Wt w p m N S L V) (ht : TabZ w) :
    Calls Tryd.prog 21 #[.pointer (some ⟨p, 0, none⟩)] w fun e w' => (∃ n b, e = .returned (.tuple #[.int .u64 ((n : Nat) : Int), .bool b]) ∧ NextIs L n b) ∧ Below w.heap.size w w' := by
  obtain ⟨F, X, hx, hr, ho⟩ := h
  have hcM := hx.cM
  have hpl := hx.lt (.inl rfl : footW p m V p)
  have HX : Hid _ := hx
  have HT : Hid _ := ht
  have HR : Hid _ := And.intro hr ho
  clear hx ht hr ho
  go_enter Tryd.func21, Tryd.ntmps21
  go_wp2_with (go_at_call 24; refine Calls.mono (made_t p (some m) _ hcM) ?_; rintro e w' ⟨rfl, hq⟩; have hq := hq.symm; subst hq)
  go_loopw [10] (fun i wr => ∃ r : Nat, r ≤ 8 ∧ i = .int .i64 (r : Int) ∧ Below w.heap.size w wr ∧ ∀ k', k' < r → ∀ s', s' < 64 → F k' s' = []) (fun i _ => 8 - (intOf i).toNat)
  case atStart => exact ⟨0, Nat.zero_le _, rfl, Below.refl _ _, fun k h9 => absurd h9 (Nat.not_lt_zero _)⟩
  case round =>
    obtain ⟨r, hr8, rfl, hbr, hem⟩ := hrel
    by_cases hlt : r < 8
    · have HBR : Hid _ := hbr
      have HEM : Hid _ := hem
      clear hbr hem
      go_wp2_with fail
      refine Calls.mono (nextw_t (Wx.below HX.out HBR.out) r _ hlt (by omega) (TabZ.below HT.out HBR.out)) ?_
      rintro e w1 ⟨⟨n1, b1, rfl, h1⟩, hb1⟩
      have hb01 : Below w.heap.size w w1 := below_next HBR.out hb1
      rcases h1 with ⟨rfl, rfl, h2⟩ | ⟨rfl, s, hs, h2, h3⟩
      · have H2 : Hid _ := h2
        have HB01 : Hid _ := hb01
        clear h2 hb01
        go_wp2
        go_roundw
        case rel =>
          refine ⟨r + 1, hlt, by go_num, HB01.out, fun k' hk' s' hs' => ?_⟩
          by_cases e : k' = r
          · rw [e]; exact H2.out s' hs'
          · exact HEM.out k' (by omega) s' hs'
        case measure => simp [intOf]; omega
      · have H2 : Hid _ := h2
        have H3 : Hid _ := h3
        have HB01 : Hid _ := hb01
        clear h2 hb01 h3
        go_wp2
        go_ret2
        exact ⟨⟨n1, true, rfl, next_found HR.out.1 HR.out.2 hlt hs HEM.out H2.out H3.out⟩, HB01.out⟩
    · obtain rfl : r = 8 := by omega
      have HBR : Hid _ := hbr
      have HEM : Hid _ := hem
      clear hbr hem
      go_wp2
      go_ret2
      exact ⟨⟨0, false, rfl, next_none HR.out.1 HR.out.2 HEM.out⟩, HBR.out⟩
end
end Go.Proofs.YtnfikcegmicooabDoor
