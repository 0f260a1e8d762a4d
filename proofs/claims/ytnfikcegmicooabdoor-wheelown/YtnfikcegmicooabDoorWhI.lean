import Derived.Test.YtnfikcegmicooabDoorWhH
namespace Go.Proofs.YtnfikcegmicooabDoor
set_option linter.unusedVariables false
set_option linter.unusedSimpArgs false
open Go.RowKit Go.Maps
section
variable {w w' : World} {p m N S : Nat} {F : Nat → Nat → List Tm} {V : Nat → Nat → Value} {fl : Nat → Nat} {K : List Int} {X : Int → Pl}
theorem first_w (h : Wx w p m N S F K X V) (k q : Nat) (hk : k < 8) (hq : q = 2 + 65 * k) (ht : TabZ w) :
    Calls Tryd.prog 45 #[.pointer (some ⟨p, q, none⟩)] w fun e w' => (∃ j b, e = .returned (.tuple #[.int .i64 ((j : Nat) : Int), .bool b]) ∧ ((b = false ∧ ∀ s, s < 64 → F k s = []) ∨ (b = true ∧ j < 64 ∧ F k j ≠ [] ∧ ∀ s, s < j → F k s = []))) ∧ Drw w w' := by
  subst hq
  obtain ⟨fl, h1, h2, hz⟩ := h
  refine Calls.mono (first_t p (2 + 65 * k) (fl k) (h1.fw k hk) w (h1.cF hk) ht) ?_
  rintro e w' ⟨rfl, hd⟩
  refine ⟨⟨_, _, rfl, ?_⟩, hd⟩
  by_cases h0 : fl k = 0
  · exact .inl ⟨by simp [h0], h2.zero hk h0⟩
  · exact .inr ⟨by simp [h0], h2.low hk (h1.fw k hk) h0⟩
theorem empty_w (h : Wx w p m N S F K X V) (k s q : Nat) (hk : k < 8) (hs : s < 64) (hq : q = 2 + 65 * k) :
    Calls Tryd.prog 47 #[.pointer (some ⟨p, q, none⟩), .int .i64 (s : Int)] w fun e w' => e = .returned (.tuple #[]) ∧ Wx w' p m N S (upd2 F k s []) K X (upd2 V k s (.slice none 0 0)) ∧ Stp w w' p m V (upd2 V k s (.slice none 0 0)) ∧ w.grownBy w' (some p) := by
  subst hq
  obtain ⟨fl, h1, h2, hz⟩ := h
  have hpos := h1.lt (.inl rfl)
  refine Calls.mono (empty_t p (2 + 65 * k) (fl k) s hs (h1.fw k hk) _ w (h1.cV hk hs) (h1.fz _) (h1.cF hk) (h1.fz _)) ?_
  rintro e w' ⟨rfl, hd⟩
  have hg : w.grownBy w (V k s).ownBlock := ⟨rfl, rfl, rfl, Nat.le_refl _, fun _ _ _ => rfl⟩
  have hn0 : ∀ b, (Value.slice none 0 0).ownBlock = some b → (V k s).ownBlock = some b ∨ w.heap.size ≤ b := fun b e => by cases e
  have hst := (((Stp.row (p := p) (m := m) hk hs hg hn0).set (2 + 65 * k + s) (.slice none 0 0)).set (2 + 65 * k + 64) (.int .u64 (bitOff (fl k) s : Int))).drw hd
  refine ⟨rfl, ⟨_, ((h1.stV (ys := []) hk hs hg (World.ownsRow_nil _ _ _ _) hn0).stF hk _ (bitOff_lt (fl k) s)).drw hd, h2.off hs, hst.z hz (by omega)⟩, hst, ?_⟩
  obtain ⟨n, rfl⟩ := hd
  have h9 := (gset1 w p (2 + 65 * k + s) (.slice none 0 0)).trans' (gset1 _ p (2 + 65 * k + 64) (.int .u64 (bitOff (fl k) s : Int)))
  exact ⟨h9.os, h9.tape, h9.output, h9.size, h9.block⟩
end
/-- the slots below r are empty -/
def takF (F : Nat → Nat → List Tm) (k r : Nat) : Nat → Nat → List Tm := fun k' s' => if k' = k ∧ s' < r then [] else F k' s'
def catF (F : Nat → Nat → List Tm) (k r : Nat) : List Tm := (List.range r).flatMap (F k)
theorem takF_zero (F : Nat → Nat → List Tm) (k : Nat) : takF F k 0 = F := by funext k' s'; simp [takF]
theorem takF_at {F : Nat → Nat → List Tm} {k r s : Nat} (h : r ≤ s) : takF F k r k s = F k s := by unfold takF; rw [if_neg (by omega)]
theorem takF_in {F : Nat → Nat → List Tm} {k r s : Nat} (h : s < r) : takF F k r k s = [] := by unfold takF; rw [if_pos ⟨rfl, h⟩]
theorem takF_step (F : Nat → Nat → List Tm) (k r : Nat) : upd2 (takF F k r) k r [] = takF F k (r + 1) := by
  funext k' s'
  unfold upd2 takF
  by_cases h1 : k' = k
  · subst h1
    by_cases h2 : s' = r
    · subst h2; simp
    · by_cases h3 : s' < r
      · simp [h3, h2, show s' < r + 1 by omega]
      · simp [h3, h2, show ¬ s' < r + 1 by omega]
  · simp [h1]
theorem takF_skip {F : Nat → Nat → List Tm} {k r r' : Nat} (hr : r ≤ r') (h : ∀ s, r ≤ s → s < r' → F k s = []) : takF F k r = takF F k r' := by
  funext k' s'
  unfold takF
  by_cases h1 : k' = k
  · subst h1
    by_cases h2 : s' < r
    · simp [h2, show s' < r' by omega]
    · by_cases h3 : s' < r'
      · simp [h2, h3, h s' (by omega) h3]
      · simp [h2, h3]
  · simp [h1]
theorem catF_step (F : Nat → Nat → List Tm) (k r : Nat) : catF F k (r + 1) = catF F k r ++ F k r := by
  unfold catF
  rw [List.range_succ, List.flatMap_append]
  simp
theorem catF_skip {F : Nat → Nat → List Tm} {k r r' : Nat} (hr : r ≤ r') (h : ∀ s, r ≤ s → s < r' → F k s = []) : catF F k r = catF F k r' := by
  obtain ⟨d, rfl⟩ := Nat.exists_eq_add_of_le hr
  induction d with
  | zero => rfl
  | succ d ih =>
    rw [← Nat.add_assoc, catF_step, ← ih (by omega) (fun s h1 h2 => h s h1 (by omega)), h (r + d) (by omega) (by omega), List.append_nil]
theorem catF_le (F : Nat → Nat → List Tm) (k : Nat) {r r' : Nat} (hr : r ≤ r') : (catF F k r).length ≤ (catF F k r').length := by
  obtain ⟨d, rfl⟩ := Nat.exists_eq_add_of_le hr
  induction d with
  | zero => exact Nat.le_refl _
  | succ d ih =>
    rw [← Nat.add_assoc, catF_step, List.length_append]
    have := ih (by omega)
    omega
theorem foot_upd {p m : Nat} {V : Nat → Nat → Value} {k s b : Nat} (h : footW p m (upd2 V k s (.slice none 0 0)) b) : footW p m V b := by
  rcases h with h | h | ⟨k', s', hk, hs, e⟩
  · exact .inl h
  · exact .inr (.inl h)
  · by_cases e2 : k' = k ∧ s' = s
    · rw [e2.1, e2.2, upd2_same] at e
      cases e
    · rw [upd2_other _ e2] at e
      exact .inr (.inr ⟨k', s', hk, hs, e⟩)
section
variable {w w' : World} {p m N S : Nat} {F : Nat → Nat → List Tm} {V : Nat → Nat → Value} {fl : Nat → Nat} {K : List Int} {X : Int → Pl}
set_option maxRecDepth 20000 in
set_option maxHeartbeats 1600000 in
theorem take_w (h : Wx w p m N S F K X V) (k last q : Nat) (hk : k < 8) (hl : last < 64) (hq : q = 2 + 65 * k) (ht : TabZ w) (hb : (catF F k 64).length ≤ 4398046511104) :
    Calls Tryd.prog 39 #[.pointer (some ⟨p, q, none⟩), .int .i64 (last : Int)] w fun e w' => ∃ v V', e = .returned v ∧ OwnM w' w.heap.size v (catF F k (last + 1)) ∧ Wx w' p m N S (takF F k (last + 1)) K X V' ∧ Stp w w' p m V V' ∧ ∀ b, footW p m V' b → footW p m V b := by
  have HX : Hid _ := h
  have HT : Hid _ := ht
  have HQ : Hid _ := hq
  have HB : Hid _ := hb
  clear h ht hq hb
  go_enter Tryd.func39, Tryd.ntmps39
  go_wp2_with (go_at_call 45; refine Calls.mono (first_w HX.out k q hk HQ.out HT.out) ?_; rintro e w1 ⟨⟨j1, b1, rfl, h1⟩, hd1⟩)
  go_loopw [4, 5, 6] (fun v sl so wr => ∃ r V' j b, sl = .int .i64 ((j : Nat) : Int) ∧ so = .bool b ∧ Wx wr p m N S (takF F k r) K X V' ∧ Stp w wr p m V V' ∧ (∀ b, footW p m V' b → footW p m V b) ∧ OwnM wr w.heap.size v (catF F k r) ∧ r ≤ last + 1 ∧ ((b = false ∧ ∀ s, s < 64 → r ≤ s → F k s = []) ∨ (b = true ∧ r ≤ j ∧ j < 64 ∧ F k j ≠ [] ∧ ∀ s, r ≤ s → s < j → F k s = []))) (fun _ sl so _ => match so with | .bool true => 64 - (intOf sl).toNat | _ => 0)
  case atStart =>
    obtain ⟨n1, rfl⟩ := hd1
    refine ⟨0, V, j1, b1, rfl, rfl, ?_, Stp.below (Drw.below ⟨n1, rfl⟩ _) _ _ _, fun _ h9 => h9, World.ownsRow_nil _ _ _ _, Nat.zero_le _, ?_⟩
    · rw [takF_zero]
      exact Wx.below HX.out (Drw.below ⟨n1, rfl⟩ _)
    · rcases h1 with ⟨h2, h3⟩ | ⟨h2, h3, h4, h5⟩
      · exact .inl ⟨h2, fun s h9 _ => h3 s h9⟩
      · exact .inr ⟨h2, Nat.zero_le _, h3, h4, fun s _ h9 => h5 s h9⟩
  case round =>
    obtain ⟨r, V', j, b, rfl, rfl, hx, hst, hsub, hown, hr, hcs⟩ := hrel
    rcases hcs with ⟨rfl, hz⟩ | ⟨rfl, hrj, hj, hne, hmid⟩
    · have HZ : Hid _ := hz
      clear hz
      go_wp2
      go_ret
      have h9 : ∀ s, r ≤ s → s < last + 1 → F k s = [] := fun s h7 h8 => HZ.out s (by omega) h7
      refine ⟨_, V', rfl, ?_, ?_, hst, hsub⟩
      · rw [← catF_skip hr h9]; exact hown
      · rw [← takF_skip hr h9]; exact hx
    · by_cases hjl : j ≤ last
      · have hrow := hx.fewer hk hj
        rw [takF_at hrj] at hrow
        obtain ⟨a, c, hv, hc1, hnil, hrd⟩ := hrow.val
        obtain ⟨n, hn⟩ : ∃ n, n = (F k j).length := ⟨_, rfl⟩
        have hcv : wr.cell? ⟨p, q + j, none⟩ = some (.slice a n c) := by
          obtain ⟨fl, h7, -⟩ := hx
          rw [HQ.out, hn, ← hv]
          exact h7.cV hk hj
        have hcat : catF F k r = catF F k j := catF_skip hrj hmid
        have htak : takF F k r = takF F k j := takF_skip hrj hmid
        have hle : (catF F k r).length + n ≤ 4398046511104 := by
          have h8 := catF_le F k (show j + 1 ≤ 64 by omega)
          rw [catF_step, List.length_append, ← hcat, ← hn] at h8
          have := HB.out
          omega
        have hsz : w.heap.size ≤ wr.heap.size := hst.chg.size
        have HN : Hid _ := hn
        have HV : Hid _ := hv
        have HRD : Hid _ := hrd
        have HNL : Hid _ := hnil
        have HX1 : Hid _ := hx
        have HST : Hid _ := hst
        have HSB : Hid _ := hsub
        have HOW : Hid _ := hown
        have HMD : Hid _ := And.intro hrj (And.intro hne (And.intro hmid (And.intro hcat htak)))
        clear hn hv hrd hnil hx hst hsub hown hrow hne hmid hcat htak hrj
        go_wp2_with (first
          | (at_builtin; refine wp_appM rfl _ _ rfl w.heap.size _ (catF F k r) (F k j) n a c HN.out rfl HOW.out rfl HRD.out HNL.out hle hsz ?_; intro v2 w2 hown2 hg2; have HO2 : Hid _ := hown2; have HG2 : Hid _ := hg2; have HX2 : Hid (Wx w2 p m N S (takF F k r) K X V') := Wx.chg (G := fun b => w.heap.size ≤ b) HX1.out (Chg.of_grown hg2 (fun b e => (World.ownsRow.lt HOW.out b e).1)) (fun b hf h9 => by have := Wx.lt HX.out (HSB.out b hf); omega); clear hown2 hg2)
          | (go_at_call 47; refine Calls.mono (empty_w HX2.out k j q hk hj HQ.out) ?_; rintro e w3 ⟨rfl, hx3, hst3, hg3⟩; have hst03 : Stp w w3 p m V (upd2 V' k j (.slice none 0 0)) := (HST.out.belowEnd ((Below.refl _ _).grown HG2.out hsz (fun b e => (World.ownsRow.lt HOW.out b e).1)) (Nat.le_refl _)).trans hst3; have HT3 : Hid (TabZ w3) := hst03.tab (by obtain ⟨_, _, _, h9⟩ := HX.out; exact h9) HT.out; have HX3 : Hid _ := hx3; have HS3 : Hid _ := hst03; have HG3 : Hid _ := hg3; clear hx3 hst3 hg3 hst03)
          | (go_at_call 45; refine Calls.mono (first_w HX3.out k q hk HQ.out HT3.out) ?_; rintro e w4 ⟨⟨j4, b4, rfl, h4⟩, hd4⟩))
        obtain ⟨n4, rfl⟩ := hd4
        obtain ⟨hrj, hne, hmid, hcat, htak⟩ := HMD.out
        have hx3 := HX3.out
        rw [htak, takF_step] at hx3 h4
        have h5 : (b4 = false ∧ ∀ s, s < 64 → j + 1 ≤ s → F k s = []) ∨ (b4 = true ∧ j + 1 ≤ j4 ∧ j4 < 64 ∧ F k j4 ≠ [] ∧ ∀ s, j + 1 ≤ s → s < j4 → F k s = []) := by
          rcases h4 with ⟨h2, h3⟩ | ⟨h2, h3, h4, h5⟩
          · exact .inl ⟨h2, fun s h9 h8 => by rw [← takF_at (F := F) (k := k) h8]; exact h3 s h9⟩
          · have h6 : j + 1 ≤ j4 := by
              apply Classical.byContradiction
              intro h9
              exact h4 (takF_in (by omega))
            rw [takF_at h6] at h4
            exact .inr ⟨h2, h6, h3, h4, fun s h9 h8 => by rw [← takF_at (F := F) (k := k) h9]; exact h5 s h8⟩
        go_roundw
        case rel =>
          refine ⟨j + 1, upd2 V' k j (.slice none 0 0), j4, b4, rfl, rfl, Wx.below hx3 (Drw.below ⟨n4, rfl⟩ _), HS3.out.drw ⟨n4, rfl⟩, fun b h9 => HSB.out b (foot_upd h9), ?_, by omega, h5⟩
          rw [catF_step, ← hcat]
          refine rowM_kept HO2.out (fun b hb => ?_)
          refine HG3.out.block b (World.ownsRow.lt HO2.out b hb).2 (fun e => ?_)
          have h7 := (World.ownsRow.lt HO2.out b hb).1
          have h8 := Wx.lt HX.out (.inl rfl : footW p m V p)
          cases e
          omega
        case measure =>
          rcases h5 with ⟨rfl, -⟩ | ⟨rfl, h7, h8, -⟩
          · simp [intOf]; omega
          · simp [intOf]; omega
      · have HMD : Hid _ := And.intro hrj hmid
        clear hrj hmid hne
        go_wp2
        go_ret
        have h9 : ∀ s, r ≤ s → s < last + 1 → F k s = [] := fun s h7 h8 => HMD.out.2 s h7 (by omega)
        refine ⟨_, V', rfl, ?_, ?_, hst, hsub⟩
        · rw [← catF_skip hr h9]; exact hown
        · rw [← takF_skip hr h9]; exact hx
end
end Go.Proofs.YtnfikcegmicooabDoor
