import Derived.Test.YtnfikcegmicooaaDoorWWNil
namespace Go.Proofs.YtnfikcegmicooaaDoor
set_option linter.unusedVariables false
set_option linter.unusedSimpArgs false
open Go.RowKit Go.Maps Go.Shelf
theorem rdZ_lit1 (w : World) (a : Int) : RdZ (w.alloc (.cells #[.int .i64 a] 3)) (.slice (some ⟨w.heap.size, 0, none⟩) 1 1) [a] := by
  refine ⟨_, 1, rfl, fun j hj => ⟨w.heap.size, 0, rfl, ?_⟩⟩
  have h9 := heap_alloc_new w (.cells #[.int .i64 a] 3)
  obtain rfl : j = 0 := by simp at hj; omega
  rw [cell_of_row _ _ _ _ _ _ h9]
  rfl
theorem next_one (t : Tm) (h : t.at_ ≤ mxN) : NextIs [t] t.at_ true := .inr ⟨rfl, ⟨t, by simp, h, rfl⟩, fun u hu _ => by simp at hu; rw [hu]; exact Nat.le_refl _⟩
theorem next_never (t : Tm) (h : ¬ t.at_ ≤ mxN) : NextIs [t] 0 false := .inl ⟨rfl, rfl, fun u hu => by simp at hu; rw [hu]; exact h⟩
theorem next_empty : NextIs [] 0 false := .inl ⟨rfl, rfl, fun u hu => by cases hu⟩
theorem adv_early (t : Tm) (N x : Nat) (h : min x mxN < t.at_) : AdvA [t] N x [] ∧ advL [t] N x = [t] := by
  unfold AdvA advL
  by_cases h1 : N < min x mxN
  · rw [if_pos h1, if_pos h1]
    refine ⟨⟨List.Pairwise.nil, fun u => ⟨fun hu => (by cases hu), fun hu => ?_⟩⟩, ?_⟩
    · obtain ⟨h2, h3⟩ := hu
      simp at h2
      rw [h2] at h3
      omega
    · rw [List.filter_cons_of_pos (by simpa using h)]
      rfl
  · rw [if_neg h1, if_neg h1]
    exact ⟨rfl, rfl⟩
theorem adv_due (t : Tm) (N x : Nat) (hN : N < min x mxN) (h : t.at_ ≤ min x mxN) : AdvA [t] N x [t] ∧ advL [t] N x = [] := by
  unfold AdvA advL
  rw [if_pos hN, if_pos hN]
  refine ⟨⟨by simp, fun u => ⟨fun hu => ⟨hu, ?_⟩, fun hu => hu.1⟩⟩, ?_⟩
  · simp at hu
    rw [hu]
    exact h
  · rw [List.filter_cons_of_neg (by simpa using h)]
    rfl
set_option maxRecDepth 20000 in
set_option maxHeartbeats 3200000 in
theorem wheelLong_walk (now id x : Int) (w : World) (hn : (Lit.int .u64 now).wf = true) (hid : (Lit.int .i64 id).wf = true) (hx : (Lit.int .u64 x).wf = true) (ht : TabZ w) : Calls Tryd.prog 3 #[.int .u64 now, .int .i64 id, .int .u64 x] w fun e w' => e = .returned (.bool true) ∧ Below w.heap.size w w' := by
  obtain ⟨x, rfl, hx6⟩ := u64_of hx
  obtain ⟨now, rfl, hn6⟩ := u64_of hn
  have HI : Hid _ := inI_of hid
  have HT : Hid _ := ht
  obtain ⟨N, hN⟩ : ∃ N, N = min now mxN := ⟨_, rfl⟩
  obtain ⟨A, hA⟩ : ∃ A, A = max (min x mxN) (N + 1) := ⟨_, rfl⟩
  have hmx : mxN = 281474976710655 := rfl
  have hNm : N ≤ 281474976710655 := by omega
  have hA1 : N < A := by omega
  have hA2 : N < 281474976710655 → A ≤ 281474976710655 := by omega
  have hA3 : N = 281474976710655 → ¬ A ≤ mxN := by omega
  have hA4 : N < 281474976710655 → N < x → A = min x 281474976710655 := by omega
  have hA5 : N < 281474976710655 → x ≤ N → A = N + 1 := by omega
  have HN : Hid _ := hN
  have HA : Hid _ := hA
  have HA3 : Hid _ := hA3
  have HA4 : Hid _ := hA4
  have HA5 : Hid _ := hA5
  clear ht hx hn hid hN hA hA3 hA4 hA5 hmx
  go_enter Tryd.func3, Tryd.ntmps3
  go_wp2_with fail
  refine Calls.mono (new_n now w HT.out) ?_
  rintro e w1 ⟨p, rfl, h1, hb1⟩
  rw [← HN.out] at h1
  have H1 : Hid _ := h1
  have HB1 : Hid _ := hb1
  clear h1 hb1
  go_wp2_with fail
  refine Calls.mono (knows_t w1 H1.out.tab) ?_
  rintro e w2 ⟨rfl, hb2⟩
  have H2 : Hid _ := H1.out.below hb2
  have HB2 : Hid (Below w.heap.size w w2) := HB1.out.trans (hb2.mono H1.out.le)
  clear hb2
  go_wp2_with fail
  refine Calls.mono (set_n H2.out id x HI.out (by decide) (by decide)) ?_
  rintro e w3 ⟨rfl, h3, hb3⟩
  have e3 : setL [] N 0 id x = [⟨id, A, 1⟩] := by unfold setL; rw [← HA.out]; rfl
  rw [e3] at h3
  have H3 : Hid _ := h3
  have HB3 : Hid (Below w.heap.size w w3) := HB2.out.trans hb3
  clear h3 hb3 e3
  go_wp2_with fail
  refine Calls.mono (next_n H3.out) ?_
  rintro e w4 ⟨⟨n4, b4, rfl, h4⟩, hw4, hb4⟩
  have HB4 : Hid (Below w.heap.size w w4) := HB3.out.trans hb4
  have H4 : Hid _ := hw4
  clear hw4 hb4
  by_cases hm : N = 281474976710655
  · obtain ⟨rfl, rfl⟩ := h4.uniq (next_never ⟨id, A, 1⟩ (HA3.out hm))
    clear h4
    have hNi : ((N : Int) == 281474976710655) = true := by simp; omega
    go_wp2_with (first
      | (go_at_call 13; refine Calls.mono (now_n H4.out) ?_; rintro e w' ⟨rfl, hq⟩; have hq := hq.symm; subst hq)
      | (go_at_call 14; refine Calls.mono (len_n H4.out) ?_; rintro e w' ⟨rfl, hq⟩; have hq := hq.symm; subst hq))
    refine Calls.mono (advance_n H4.out 18446744073709551615 (by simp)) ?_
    rintro e w5 ⟨v5, D5, rfl, hD5, hz5, hw5, hb5⟩
    have hno : ¬ N < min 18446744073709551615 mxN := by rw [hm]; decide
    have hD0 : D5 = [] := by unfold AdvA at hD5; rw [if_neg hno] at hD5; exact hD5
    have hL0 : advL [⟨id, A, 1⟩] N 18446744073709551615 = [⟨id, A, 1⟩] := by unfold advL; rw [if_neg hno]
    subst hD0
    rw [hL0] at hw5
    obtain ⟨a5, c5, hv5, -⟩ := hz5.rd
    simp only [List.map_nil, List.length_nil] at hv5
    subst hv5
    have H5 : Hid _ := hw5
    have HB5 : Hid (Below w.heap.size w w5) := HB4.out.trans hb5
    clear hD5 hz5 hw5 hb5 hL0 hno
    go_wp2_with fail
    refine Calls.mono (stop_n H5.out id HI.out (by simp)) ?_
    rintro e w6 ⟨rfl, h6, hb6⟩
    have hdec : decide (id ∈ [(⟨id, A, 1⟩ : Tm)].map Tm.id) = true := by simp
    rw [hdec]
    clear hdec
    go_wp2
    go_ret
    exact ⟨rfl, HB5.out.trans hb6⟩
  · have hN2 : N < 281474976710655 := by omega
    have hAm : A ≤ 281474976710655 := hA2 hN2
    obtain ⟨hn4, rfl⟩ := h4.uniq (next_one ⟨id, A, 1⟩ hAm)
    have hn4 : A = n4 := hn4.symm
    subst hn4
    clear h4
    have hNi : ((N : Int) == 281474976710655) = false := by simp; omega
    have hAi : ¬ (A : Int) ≤ (N : Int) := by omega
    have hAj : ¬ (281474976710655 : Int) < (A : Int) := by omega
    have hA0 : 1 ≤ A := by omega
    have hAe : (A : Int) - 1 = ((A - 1 : Nat) : Int) := by omega
    by_cases hxN : N < x
    · have hxi : (N : Int) < (x : Int) := by omega
      have hxj : ¬ (x : Int) ≤ (N : Int) := by omega
      have hmn : min (x : Int) 281474976710655 = (A : Int) := by have := HA4.out hN2 hxN; omega
      go_wp2_with (go_at_call 13; refine Calls.mono (now_n H4.out) ?_; rintro e w' ⟨rfl, hq⟩; have hq := hq.symm; subst hq)
      refine Calls.mono (advance_n H4.out (A - 1) (by simp)) ?_
      rintro e w5 ⟨v5, D5, rfl, hD5, hz5, hw5, hb5⟩
      have hE := adv_early ⟨id, A, 1⟩ N (A - 1) (by show min (A - 1) mxN < A; omega)
      obtain rfl := hD5.uniq hE.1
      rw [hE.2, show max N (min (A - 1) mxN) = A - 1 from by have h9 : mxN = 281474976710655 := rfl; omega] at hw5
      obtain ⟨a5, c5, hv5, -⟩ := hz5.rd
      simp only [List.map_nil, List.length_nil] at hv5
      subst hv5
      have H5 : Hid _ := hw5
      have HB5 : Hid (Below w.heap.size w w5) := HB4.out.trans hb5
      clear hD5 hz5 hw5 hb5 hE
      go_wp2_with (go_at_call 14; refine Calls.mono (len_n H5.out) ?_; rintro e w' ⟨rfl, hq⟩; have hq := hq.symm; subst hq)
      refine Calls.mono (advance_n H5.out A (by simp)) ?_
      rintro e w6 ⟨v6, D6, rfl, hD6, hz6, hw6, hb6⟩
      have hE := adv_due ⟨id, A, 1⟩ (A - 1) A (by have h9 : mxN = 281474976710655 := rfl; omega) (by show A ≤ min A mxN; have h9 : mxN = 281474976710655 := rfl; omega)
      obtain rfl := hD6.uniq hE.1
      rw [hE.2] at hw6
      have H6 : Hid _ := hw6
      have HZ6 : Hid _ := hz6
      have HB6 : Hid (Below w.heap.size w w6) := HB5.out.trans hb6
      clear hD6 hz6 hw6 hb6 hE
      go_wp2_with fail
      refine Calls.mono (same_t v6 _ [id] [id] _ (RdZ.below (OwnZ.rd HZ6.out) (al (Below.refl _ _) _)) (rdZ_lit1 w6 id) (by simp) (by simp)) ?_
      rintro e w7 ⟨rfl, hd7⟩
      have hb7 : Below w6.heap.size w6 w7 := (al (Below.refl _ _) _).trans (hd7.below _)
      have HB7 : Hid (Below w.heap.size w w7) := HB6.out.trans (hb7.mono H6.out.le)
      have H7 : Hid _ := H6.out.below hb7
      clear hd7 hb7
      have hdec : decide ([id] = [id]) = true := by simp
      rw [hdec]
      clear hdec
      go_wp2_with fail
      refine Calls.mono (next_n H7.out) ?_
      rintro e w8 ⟨⟨n8, b8, rfl, h8⟩, hw8, hb8⟩
      obtain ⟨rfl, rfl⟩ := h8.uniq next_empty
      have H8 : Hid _ := hw8
      have HB8 : Hid (Below w.heap.size w w8) := HB7.out.trans hb8
      clear h8 hw8 hb8
      go_wp2_with (go_at_call 14; refine Calls.mono (len_n H8.out) ?_; rintro e w' ⟨rfl, hq⟩; have hq := hq.symm; subst hq)
      go_ret
      exact ⟨rfl, HB8.out⟩
    · have hxi : ¬ (N : Int) < (x : Int) := by omega
      have hxj : (x : Int) ≤ (N : Int) := by omega
      have hsn : (N : Int) + 1 = (A : Int) := by have := HA5.out hN2 (by omega); omega
      go_wp2_with (go_at_call 13; refine Calls.mono (now_n H4.out) ?_; rintro e w' ⟨rfl, hq⟩; have hq := hq.symm; subst hq)
      refine Calls.mono (advance_n H4.out (A - 1) (by simp)) ?_
      rintro e w5 ⟨v5, D5, rfl, hD5, hz5, hw5, hb5⟩
      have hE := adv_early ⟨id, A, 1⟩ N (A - 1) (by show min (A - 1) mxN < A; omega)
      obtain rfl := hD5.uniq hE.1
      rw [hE.2, show max N (min (A - 1) mxN) = A - 1 from by have h9 : mxN = 281474976710655 := rfl; omega] at hw5
      obtain ⟨a5, c5, hv5, -⟩ := hz5.rd
      simp only [List.map_nil, List.length_nil] at hv5
      subst hv5
      have H5 : Hid _ := hw5
      have HB5 : Hid (Below w.heap.size w w5) := HB4.out.trans hb5
      clear hD5 hz5 hw5 hb5 hE
      go_wp2_with (go_at_call 14; refine Calls.mono (len_n H5.out) ?_; rintro e w' ⟨rfl, hq⟩; have hq := hq.symm; subst hq)
      refine Calls.mono (advance_n H5.out A (by simp)) ?_
      rintro e w6 ⟨v6, D6, rfl, hD6, hz6, hw6, hb6⟩
      have hE := adv_due ⟨id, A, 1⟩ (A - 1) A (by have h9 : mxN = 281474976710655 := rfl; omega) (by show A ≤ min A mxN; have h9 : mxN = 281474976710655 := rfl; omega)
      obtain rfl := hD6.uniq hE.1
      rw [hE.2] at hw6
      have H6 : Hid _ := hw6
      have HZ6 : Hid _ := hz6
      have HB6 : Hid (Below w.heap.size w w6) := HB5.out.trans hb6
      clear hD6 hz6 hw6 hb6 hE
      go_wp2_with fail
      refine Calls.mono (same_t v6 _ [id] [id] _ (RdZ.below (OwnZ.rd HZ6.out) (al (Below.refl _ _) _)) (rdZ_lit1 w6 id) (by simp) (by simp)) ?_
      rintro e w7 ⟨rfl, hd7⟩
      have hb7 : Below w6.heap.size w6 w7 := (al (Below.refl _ _) _).trans (hd7.below _)
      have HB7 : Hid (Below w.heap.size w w7) := HB6.out.trans (hb7.mono H6.out.le)
      have H7 : Hid _ := H6.out.below hb7
      clear hd7 hb7
      have hdec : decide ([id] = [id]) = true := by simp
      rw [hdec]
      clear hdec
      go_wp2_with fail
      refine Calls.mono (next_n H7.out) ?_
      rintro e w8 ⟨⟨n8, b8, rfl, h8⟩, hw8, hb8⟩
      obtain ⟨rfl, rfl⟩ := h8.uniq next_empty
      have H8 : Hid _ := hw8
      have HB8 : Hid (Below w.heap.size w w8) := HB7.out.trans hb8
      clear h8 hw8 hb8
      go_wp2_with (go_at_call 14; refine Calls.mono (len_n H8.out) ?_; rintro e w' ⟨rfl, hq⟩; have hq := hq.symm; subst hq)
      go_ret
      exact ⟨rfl, HB8.out⟩
end Go.Proofs.YtnfikcegmicooaaDoor
