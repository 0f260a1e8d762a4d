import Derived.Test.YtnfikcegmicooabDoorWhS
namespace Go.Proofs.YtnfikcegmicooabDoor
set_option linter.unusedVariables false
set_option linter.unusedSimpArgs false
open Go.RowKit Go.Maps
section
variable {w w' : World} {p m N S : Nat} {L : List Tm} {F : Nat → Nat → List Tm} {V : Nat → Nat → Value} {K : List Int} {X : Int → Pl}
/-- the least time of a list -/
def LeastIs (xs : List Tm) (n : Nat) : Prop := (∃ t, t ∈ xs ∧ t.at_ = n) ∧ ∀ t, t ∈ xs → n ≤ t.at_
set_option maxRecDepth 20000 in
set_option maxHeartbeats 1600000 in
theorem nextw_t (h : Wx w p m N S F K X V) (k q : Nat) (hk : k < 8) (hq : q = 2 + 65 * k) (ht : TabZ w) :
    Calls Tryd.prog 37 #[.pointer (some ⟨p, q, none⟩)] w fun e w' => (∃ n b, e = .returned (.tuple #[.int .u64 ((n : Nat) : Int), .bool b]) ∧ ((b = false ∧ n = 0 ∧ ∀ s, s < 64 → F k s = []) ∨ (b = true ∧ ∃ s, s < 64 ∧ (∀ s', s' < s → F k s' = []) ∧ LeastIs (F k s) n))) ∧ Below w.heap.size w w' := by
  have HX : Hid _ := h
  have HT : Hid _ := ht
  have HQ : Hid _ := hq
  have hpl := Wx.lt h (.inl rfl : footW p m V p)
  clear h ht hq
  go_enter Tryd.func37, Tryd.ntmps37
  go_wp2_with fail
  refine Calls.mono (first_w HX.out k q hk HQ.out HT.out) ?_
  rintro e w1 ⟨⟨j, b1, rfl, h1⟩, hd1⟩
  obtain ⟨n1, rfl⟩ := hd1
  have hb1 : Below w.heap.size w (w.drewN n1) := Drw.below ⟨n1, rfl⟩ _
  rcases h1 with ⟨rfl, h2⟩ | ⟨rfl, hj, hne, hlo⟩
  · have H2 : Hid _ := h2
    clear h2
    go_wp2
    go_ret2
    exact ⟨⟨0, false, rfl, .inl ⟨rfl, rfl, H2.out⟩⟩, hb1⟩
  · obtain ⟨xs, hxs⟩ : ∃ xs, xs = F k j := ⟨_, rfl⟩
    have hrow := Wx.fewer HX.out hk hj
    rw [← hxs] at hrow hne
    obtain ⟨g, c, hv⟩ := hrow.one hne
    obtain ⟨n, hn⟩ : ∃ n, n = xs.length := ⟨_, rfl⟩
    rw [← hn] at hv
    have hcv : w.cell? ⟨p, q + j, none⟩ = some (.slice (some ⟨g, 0, none⟩) n c) := by
      obtain ⟨fl, h7, -⟩ := HX.out
      rw [HQ.out, ← hv]
      exact h7.cV hk hj
    rw [hv] at hrow
    have hn0 : 0 < xs.length := List.length_pos_iff.2 hne
    have hn1 : 0 < n := by rw [hn]; exact hn0
    obtain ⟨-, hm1, hm2⟩ := hrow.most
    have hm3 : n ≤ 9223372036854775807 := by simp only [maxLen] at hm2; omega
    obtain ⟨-, a1, -⟩ := hrow.cells3 hn 0 hn0
    simp only [Nat.zero_mul, Nat.zero_add] at a1
    obtain ⟨t0, hT0⟩ : ∃ t0, t0 = xs[0]'hn0 := ⟨_, rfl⟩
    rw [← hT0] at a1
    have HT0 : Hid (t0 ∈ xs) := by unfold Hid; rw [hT0]; exact List.getElem_mem _
    clear hT0
    have hgl := hrow.lt
    have HRW : Hid _ := hrow
    have HXS : Hid _ := hxs
    have HN : Hid _ := hn
    have HLO : Hid _ := hlo
    clear hrow hxs hn hlo hne hv hm1 hm2 hn0
    go_wp2
    go_loopw [2, 30] (fun v i wr => ∃ r n : Nat, r ≤ xs.length ∧ i = .int .i64 (r : Int) ∧ v = .int .u64 (n : Int) ∧ Below w.heap.size w wr ∧ (∃ t, t ∈ xs ∧ t.at_ = n) ∧ ∀ t, t ∈ xs.take r → n ≤ t.at_) (fun _ i _ => xs.length - (intOf i).toNat)
    case atStart => exact ⟨0, _, Nat.zero_le _, rfl, rfl, hb1, ⟨t0, HT0.out, rfl⟩, fun t ht => by simp at ht⟩
    case round =>
      obtain ⟨r, l, hr, rfl, rfl, hbr, hex, hall⟩ := hrel
      by_cases hlt : r < xs.length
      · have hrn : r < n := by rw [HN.out]; exact hlt
        have hrow := OwnM.below (xs := xs) HRW.out hbr
        obtain ⟨c0, c1, c2⟩ := hrow.cells3 HN.out r hlt
        have HE : Hid _ := And.intro hex hall
        have HBR : Hid _ := hbr
        have hgr : g < wr.heap.size := hrow.lt
        obtain ⟨t, hT⟩ : ∃ t, t = xs[r] := ⟨_, rfl⟩
        rw [← hT] at c0 c1 c2
        have HT2 : Hid _ := hT
        clear hrow hex hall hbr hT
        go_wp2
        go_roundw
        case rel =>
          refine ⟨r + 1, min l t.at_, hlt, by go_num, ?_, al HBR.out _, ?_, fun u hu => ?_⟩
          · congr 1
            omega
          · by_cases h9 : l ≤ t.at_
            · rw [Nat.min_eq_left h9]; exact HE.out.1
            · rw [Nat.min_eq_right (by omega)]
              exact ⟨t, by rw [HT2.out]; exact List.getElem_mem _, rfl⟩
          · rw [List.take_succ_eq_append_getElem hlt, List.mem_append] at hu
            rcases hu with h9 | h9
            · have := HE.out.2 u h9; omega
            · simp at h9
              rw [h9, ← HT2.out]
              omega
        case measure => simp [intOf]; omega
      · have hr2 : r = n := by rw [HN.out]; omega
        have HE : Hid _ := And.intro hex hall
        have HBR : Hid _ := hbr
        clear hex hall hbr
        go_wp2
        go_ret2
        refine ⟨⟨l, true, rfl, .inr ⟨rfl, j, hj, HLO.out, ?_⟩⟩, HBR.out⟩
        rw [← HXS.out]
        refine ⟨HE.out.1, fun t ht => HE.out.2 t ?_⟩
        rw [hr2, HN.out, List.take_length]
        exact ht
end
end Go.Proofs.YtnfikcegmicooabDoor
