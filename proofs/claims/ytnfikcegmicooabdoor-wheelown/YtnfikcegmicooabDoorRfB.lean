import Derived.Test.YtnfikcegmicooabDoorRfA
namespace Go.Proofs.YtnfikcegmicooabDoor
set_option linter.unusedVariables false
set_option linter.unusedSimpArgs false
open Go.RowKit Go.Maps
theorem NextIs.never {L : List Tm} {n : Nat} {b : Bool} (h : NextIs L n b) (t : Tm) (ht : ¬ t.at_ ≤ mxN) : NextIs (L ++ [t]) n b := by
  rcases h with ⟨rfl, rfl, h1⟩ | ⟨rfl, ⟨u, h1, h2, h3⟩, h4⟩
  · refine .inl ⟨rfl, rfl, fun u hu => ?_⟩
    rcases List.mem_append.1 hu with h2 | h2
    · exact h1 u h2
    · simp at h2; rw [h2]; exact ht
  · refine .inr ⟨rfl, ⟨u, List.mem_append_left _ h1, h2, h3⟩, fun y hy hm => ?_⟩
    rcases List.mem_append.1 hy with h5 | h5
    · exact h4 y h5 hm
    · simp at h5; rw [h5] at hm; exact absurd hm ht
theorem NextIs.keep {L : List Tm} {n : Nat} (h : NextIs L n true) (t : Tm) (ht : n ≤ t.at_) : NextIs (L ++ [t]) n true := by
  rcases h with ⟨h0, -, -⟩ | ⟨-, ⟨u, h1, h2, h3⟩, h4⟩
  · cases h0
  · refine .inr ⟨rfl, ⟨u, List.mem_append_left _ h1, h2, h3⟩, fun y hy hm => ?_⟩
    rcases List.mem_append.1 hy with h5 | h5
    · exact h4 y h5 hm
    · simp at h5; rw [h5]; exact ht
theorem NextIs.less {L : List Tm} {n : Nat} {b : Bool} (h : NextIs L n b) (t : Tm) (hm : t.at_ ≤ mxN) (ht : b = false ∨ t.at_ < n) : NextIs (L ++ [t]) t.at_ true := by
  refine .inr ⟨rfl, ⟨t, by simp, hm, rfl⟩, fun y hy hym => ?_⟩
  rcases List.mem_append.1 hy with h5 | h5
  · rcases h with ⟨rfl, rfl, h1⟩ | ⟨rfl, -, h4⟩
    · exact absurd hym (h1 y h5)
    · have := h4 y h5 hym
      rcases ht with h6 | h6
      · cases h6
      · omega
  · simp at h5; rw [h5]; exact Nat.le_refl _
section
variable {w w' : World} {q N : Nat} {L : List Tm} {v : Value}
set_option maxRecDepth 20000 in
set_option maxHeartbeats 1600000 in
theorem rnext_t (h : RfW w q N L v) :
    Calls Tryd.prog 31 #[.pointer (some ⟨q, 0, none⟩)] w fun e w' => (∃ n b, e = .returned (.tuple #[.int .u64 ((n : Nat) : Int), .bool b]) ∧ NextIs L n b) ∧ Below w.heap.size w w' := by
  obtain ⟨a, c, hv, hc, hnil, -⟩ := h.row.val
  obtain ⟨n, hn⟩ : ∃ n, n = L.length := ⟨_, rfl⟩
  rw [← hn] at hv
  subst hv
  have hqv := h.c1
  have hql := h.lt (.inl rfl)
  have hrow := h.row
  have HN : Hid _ := hn
  have HR : Hid _ := hrow
  clear h hn hrow hc hnil
  go_enter Tryd.func31, Tryd.ntmps31
  go_wp2
  go_loopw [4, 5, 6] (fun l f i wr => ∃ (j m : Nat) (b : Bool), j ≤ n ∧ i = .int .i64 (j : Int) ∧ l = .int .u64 (m : Int) ∧ f = .bool b ∧ NextIs (L.take j) m b ∧ Below w.heap.size w wr) (fun _ _ i _ => n - (intOf i).toNat)
  case atStart => exact ⟨0, 0, false, Nat.zero_le _, rfl, rfl, rfl, (.inl ⟨rfl, rfl, fun t ht => (by simp at ht)⟩), Below.refl _ _⟩
  case round =>
    obtain ⟨j, m, b, hj, rfl, rfl, rfl, hnx, hbr⟩ := hrel
    have hqr : wr.cell? ⟨q, 1, none⟩ = some (.slice a n c) := (hbr.cell (p := ⟨q, 1, none⟩) hql).trans hqv
    by_cases hlt : j < n
    · have hj1 : j < L.length := by rw [← HN.out]; exact hlt
      have hrow := OwnQ.below (xs := L) HR.out hbr
      obtain ⟨g, cc, hv⟩ := hrow.one (fun e => by rw [e] at hj1; cases hj1)
      obtain ⟨rfl, -, rfl⟩ := Value.slice.inj hv
      obtain ⟨c0, c1, c2⟩ := hrow.cells3 HN.out j hj1
      obtain ⟨t, hT⟩ : ∃ t, t = L[j] := ⟨_, rfl⟩
      rw [← hT] at c0 c1 c2
      have hgl := hrow.lt
      obtain ⟨-, hm1, hm2⟩ := hrow.most
      have hm3 : n ≤ 9223372036854775807 := by simp only [maxLen] at hm2; omega
      have htk : L.take (j + 1) = L.take j ++ [t] := by rw [List.take_succ_eq_append_getElem hj1, ← hT]
      have HTK : Hid _ := htk
      have HNX : Hid _ := hnx
      have HBR : Hid _ := hbr
      clear hrow hv hT htk hnx hbr hm1 hm2
      by_cases hnev : t.at_ ≤ mxN
      · have hnv : nev t = false := by simp [nev, hnev]
        rw [hnv] at c2
        by_cases hb : b = false ∨ t.at_ < m
        · rcases b with _ | _
          · go_wp2
            go_roundw
            case rel => exact ⟨j + 1, t.at_, true, hlt, by go_num, rfl, rfl, by rw [HTK.out]; exact NextIs.less HNX.out t hnev (.inl rfl), al HBR.out _⟩
            case measure => simp [intOf]; omega
          · have hlt2 : (t.at_ : Int) < (m : Int) := by
              rcases hb with h9 | h9
              · cases h9
              · omega
            go_wp2
            go_roundw
            case rel => exact ⟨j + 1, t.at_, true, hlt, by go_num, rfl, rfl, by rw [HTK.out]; exact NextIs.less HNX.out t hnev (.inr (by omega)), al HBR.out _⟩
            case measure => simp [intOf]; omega
        · rcases b with _ | _
          · exact absurd (.inl rfl) hb
          · have hge : ¬ (t.at_ : Int) < (m : Int) := fun h9 => hb (.inr (by omega))
            go_wp2
            go_roundw
            case rel => exact ⟨j + 1, m, true, hlt, by go_num, rfl, rfl, by rw [HTK.out]; exact NextIs.keep HNX.out t (by omega), al HBR.out _⟩
            case measure => simp [intOf]; omega
      · have hnv : nev t = true := by simp [nev, hnev]
        rw [hnv] at c2
        go_wp2
        go_roundw
        case rel => exact ⟨j + 1, m, b, hlt, by go_num, rfl, rfl, by rw [HTK.out]; exact NextIs.never HNX.out t hnev, al HBR.out _⟩
        case measure => simp [intOf]; omega
    · have hjn : j = n := by omega
      subst hjn
      rw [HN.out, List.take_length] at hnx
      have HNX : Hid _ := hnx
      clear hnx
      go_wp2
      go_ret2
      exact ⟨⟨m, b, rfl, HNX.out⟩, hbr⟩
set_option maxRecDepth 20000 in
set_option maxHeartbeats 3200000 in
theorem shows_t {p m S : Nat} {V : Nat → Nat → Value} (h : Wt w p m N S L V) (h' : RfW w q N L v) (ht : TabZ w) :
    Calls Tryd.prog 15 #[.pointer (some ⟨p, 0, none⟩), .pointer (some ⟨q, 0, none⟩)] w fun e w' => e = .returned (.bool true) ∧ Below w.heap.size w w' := by
  have HW : Hid _ := h
  have HR : Hid _ := h'
  have HT : Hid _ := ht
  clear h h' ht
  go_enter Tryd.func15, Tryd.ntmps15
  go_wp2_with fail
  refine Calls.mono (next_t HW.out HT.out) ?_
  rintro e w1 ⟨⟨n1, b1, rfl, h1⟩, hb1⟩
  have H1 : Hid _ := h1
  have HB1 : Hid _ := hb1
  clear h1 hb1
  go_wp2_with fail
  refine Calls.mono (rnext_t (RfW.below HR.out HB1.out)) ?_
  rintro e w2 ⟨⟨n2, b2, rfl, h2⟩, hb2⟩
  obtain ⟨rfl, rfl⟩ := NextIs.uniq h2 H1.out
  have hb02 : Below w.heap.size w w2 := below_next HB1.out hb2
  have HW2 : Hid _ := Wt.below HW.out hb02
  have hR2 := RfW.below HR.out hb02
  have c0 := hR2.c0
  have c1 := hR2.c1
  obtain ⟨a, c, hv, -⟩ := hR2.row.val
  obtain ⟨n, hn⟩ : ∃ n, n = L.length := ⟨_, rfl⟩
  rw [← hn] at hv
  rw [hv] at c1
  have HB2 : Hid _ := hb02
  have HL2 : Hid (∀ u : World, Drw w2 u → Calls Tryd.prog 22 #[.pointer (some ⟨p, 0, none⟩)] u fun e w' => e = .returned (.int .i64 (n : Int)) ∧ w' = u) := fun u hu => by
    rw [hn]
    exact len_t (Wt.below HW2.out (hu.below _))
  have HN2 : Hid (∀ u : World, Drw w2 u → Calls Tryd.prog 19 #[.pointer (some ⟨p, 0, none⟩)] u fun e w' => e = .returned (.int .u64 (N : Int)) ∧ w' = u) := fun u hu => now_t (Wt.below HW2.out (hu.below _))
  clear hR2 hv hn hb2 hb02 h2
  go_wp2
  go_quiet ((first
    | (go_at_call 19; exact Calls.quiet_of_same (HN2.out _ ⟨_, rfl⟩))
    | (go_at_call 22; exact Calls.quiet_of_same (HL2.out _ ⟨_, rfl⟩))))
  go_wp2
  go_ret
  refine ⟨?_, HB2.out.trans (Drw.below ⟨_, rfl⟩ _)⟩
  simp
end
end Go.Proofs.YtnfikcegmicooabDoor
