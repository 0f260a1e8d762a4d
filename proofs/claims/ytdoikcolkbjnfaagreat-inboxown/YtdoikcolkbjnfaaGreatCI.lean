import Derived.Test.YtdoikcolkbjnfaaGreatCuG
import Derived.Test.YtdoikcolkbjnfaaGreatGLeast
namespace Go.Proofs.YtdoikcolkbjnfaaGreat
set_option linter.unusedVariables false
set_option linter.unusedSimpArgs false
open Go.RowKit
section
variable {w w' : World} {p q : Nat} {V E : List Dc} {S : List Seg} {g c : Nat}
set_option maxRecDepth 20000 in
set_option maxHeartbeats 1600000 in
theorem got_no {q : Option Addr} (h : B0 w q) : Calls Tryz.prog 69 #[.pointer q] w fun e w' => e = .returned (.slice none 0 0) ∧ w' = w := by
  have H : Hid _ := made_no h
  clear h
  go_enter Tryz.func69, Tryz.ntmps69
  go_wp2_with (go_at_call 82; refine Calls.mono H.out ?_; rintro e w' ⟨rfl, hq⟩; have hq := hq.symm; subst hq)
  go_ret
  exact ⟨rfl, rfl⟩
/-- what Got tells -/
def GotOut (St : Option (List Seg)) (w : World) (e : Ending) (w' : World) : Prop := ∃ v rs, e = .returned v ∧ OwnR w' w.heap.size v rs ∧ GotIs rs St ∧ rs.length ≤ 64 ∧ Below w.heap.size w w'
/-- what the loop of Got keeps -/
def GRel (L : Nat → List Rg) (N : Nat) (w : World) (v j : Value) (wr : World) : Prop := ∃ k : Nat, k ≤ N ∧ j = .int .i64 (k : Int) ∧ OwnR wr w.heap.size v (L k) ∧ Below w.heap.size w wr
set_option maxRecDepth 20000 in
set_option maxHeartbeats 3200000 in
theorem got_t (h : Bx w p V S) : Calls Tryz.prog 69 #[.pointer (some ⟨p, 0, none⟩)] w fun e w' => GotOut (some S) w e w' := by
  have H : Hid _ := made_t h
  have HW : Hid _ := h
  have c0 := h.c0
  have hn1 := h.n1
  have q22 : ∀ (w : World) (a : Option Addr) (n c n' c' : Nat), (binOp .neq 34 (.slice a n c) (.slice none n' c')).run Tryz.prog w = .ok (.bool (!a.isNone)) w := fun w a n c n' c' => run_neq_slice_nil_any w _ _ a n c n' c' Tryz.underlying34
  clear h
  go_enter Tryz.func69, Tryz.ntmps69
  go_wp2_with (go_at_call 82; refine Calls.mono H.out ?_; rintro e w' ⟨rfl, hq⟩; have hq := hq.symm; subst hq)
  go_loopw [3, 13] (fun v j wr => GRel (ones S) S.length w v j wr) (fun _ j _ => S.length - (intOf j).toNat)
  case atStart => exact ⟨0, Nat.zero_le _, rfl, OwnR.nil _ _, Below.refl _ _⟩
  case round =>
    obtain ⟨k, hk, rfl, hown, hbw⟩ := hrel
    have HO : Hid (OwnR wr w.heap.size u3 (ones S k)) := hown
    have HB : Hid _ := hbw
    have HSZ : Hid _ := hbw.size
    clear hown hbw
    by_cases hlt : k < S.length
    · obtain ⟨d, xs, hd, hx, hcs, hby, hz, hxl⟩ := (HW.out.below HB.out).at_ hlt
      have hk64 : k < 64 := by omega
      have hkI : (k : Int) < 64 := by omega
      have hkN : (k : Int) < (S.length : Int) := by omega
      have hk0 : (0 : Int) ≤ (k : Int) := by omega
      have hkw : IntKind.i64.wrap ((k : Int) + 1) = ((k + 1 : Nat) : Int) := by rw [IntKind.wrap_i64]; omega
      by_cases he : xs = []
      · obtain rfl := hz he
        have HON : Hid (ones S (k + 1) = ones S k) := by unfold Hid; show ones S k ++ _ = _; rw [hx, he]; simp
        clear hz hx hd hby hxl he
        go_wp2
        go_roundw
        case rel => exact ⟨k + 1, hlt, by go_num, by rw [HON.out]; exact HO.out, HB.out⟩
        case measure => simp [intOf]; omega
      · have hpos : 0 < xs.length := by rcases xs with _ | ⟨y, ys⟩; exact absurd rfl he; simp
        have hsm := hby.some_ hpos
        have HON : Hid (ones S (k + 1) = ones S k ++ [((k : Int), (k : Int) + 1)]) := by unfold Hid; show ones S k ++ _ = _; rw [hx]; simp [he]
        have HOL : Hid _ := ones_len S k
        have hol : (ones S k).length ≤ 1099511627776 := by have := HOL.out; omega
        obtain ⟨L, hL⟩ : ∃ L, L = (ones S k).length := ⟨_, rfl⟩
        rw [← hL] at hol
        have HL : Hid _ := hL
        obtain ⟨da, dn, dc⟩ := d
        simp only at hsm
        obtain ⟨q1, hq1⟩ : ∃ q1, q1 = k + 1 := ⟨_, rfl⟩
        rw [← hq1] at hkw
        have HQ1 : Hid _ := hq1
        clear hz hx hd hby he hxl hL hq1
        go_wp2_with (at_builtin; refine wp_appR1 rfl _ _ rfl w.heap.size u3 (ones S k) L HL.out ((k : Int), (q1 : Int)) wr.heap.size rfl (OwnR.below HO.out (al (Below.refl _ _) _)) rfl (heap_alloc_new wr _) hol (by have := HSZ.out; simp; omega) ?_; intro g3 c3 w3 hown3 hg3 hlies3; have HO3 : Hid _ := hown3; have HG3 : Hid _ := hg3; clear hown3 hg3 hlies3)
        go_roundw
        case rel =>
          refine ⟨k + 1, hlt, by rw [HQ1.out], ?_, (HB.out.trans ((al (Below.refl _ _) _).mono HB.out.size)).grown HG3.out (by have := HSZ.out; simp; omega) (fun j hj => (World.ownsRow.lt HO.out j hj).1)⟩
          rw [HON.out]
          have h9 := HO3.out
          have e9 : (q1 : Int) = (k : Int) + 1 := by rw [HQ1.out]; rfl
          rw [e9] at h9
          exact h9
        case measure => simp [intOf]; have := HQ1.out; omega
    · obtain rfl : k = S.length := by omega
      have hol := ones_len S S.length
      obtain ⟨a9, c9, hv9, -, -, hnil9, hrd9, -⟩ := OwnR.val HO.out
      obtain ⟨L, hL⟩ : ∃ L, L = (ones S S.length).length := ⟨_, rfl⟩
      rw [← hL] at hv9
      subst hv9
      have HLE : Hid _ := least_t a9 L c9 (ones S S.length) wr hL hrd9 hnil9 (by omega)
      have HOL : Hid _ := hol
      clear hrd9 hnil9 hL hol
      go_wp2_with (go_at_call 87; refine Calls.mono HLE.out ?_; rintro e w5 ⟨v5, out, rfl, hown5, hlst5, hhas5, hlen5, hb5⟩; have HO5 : Hid _ := hown5; have HL5 : Hid _ := hlst5; have HH5 : Hid _ := hhas5; have HN5 : Hid _ := hlen5; have HB5 : Hid _ := hb5; clear hown5 hlst5 hhas5 hlen5 hb5)
      go_ret
      exact ⟨_, out, rfl, OwnR.base HO5.out HB.out.size, ⟨HL5.out, HH5.out⟩, by have := HN5.out; have := HOL.out; omega, below_next HB.out HB5.out⟩
set_option maxRecDepth 20000 in
set_option maxHeartbeats 1600000 in
theorem rgot_no : Calls Tryz.prog 79 #[.pointer none] w fun e w' => e = .returned (.slice none 0 0) ∧ w' = w := by
  go_enter Tryz.func79, Tryz.ntmps79
  go_wp2
  go_ret
  exact ⟨rfl, rfl⟩
theorem ownR_to {w : World} {B g cap n : Nat} {o : List Rg} {y : Rg} (hn : n = o.length + 1) (h : OwnR w B (.slice (some ⟨g, 0, none⟩) n cap) (o ++ [y])) : w.cell? ⟨g, o.length * 2 + 1, none⟩ = some (.int .i64 y.2) := by
  have hl : (o ++ [y]).length = n := by rw [hn]; simp
  unfold OwnR at h
  rw [hl] at h
  rw [World.ownsRow.cellAt h _ (by omega)]
  have := (flatR_get (o ++ [y]) o.length (by simp)).2
  rw [this]
  simp
set_option maxRecDepth 20000 in
set_option maxHeartbeats 3200000 in
theorem rgot_t (h : Rx w q (.slice (some ⟨g, 0, none⟩) S.length c) E S) : Calls Tryz.prog 79 #[.pointer (some ⟨q, 0, none⟩)] w fun e w' => GotOut (some S) w e w' := by
  have HW : Hid _ := h
  have hn1 := h.n1
  have c0 := h.c0
  have HC0 : Hid (∀ u, Below w.heap.size w u → u.cell? ⟨q, 0, none⟩ = some (.slice (some ⟨g, 0, none⟩) S.length c)) := fun u hu => (h.below hu).c0
  clear h
  obtain ⟨N, hN⟩ : ∃ N, N = S.length := ⟨_, rfl⟩
  rw [← hN] at c0 HC0 hn1
  have HNN : Hid _ := hN
  clear hN
  go_enter Tryz.func79, Tryz.ntmps79
  go_wp2
  go_loopw [3, 4] (fun v j wr => GRel (gS S) N w v j wr) (fun _ j _ => N - (intOf j).toNat)
  case atStart => exact ⟨0, Nat.zero_le _, rfl, OwnR.nil _ _, Below.refl _ _⟩
  case round =>
    obtain ⟨k, hk, rfl, hown, hbw⟩ := hrel
    have HO : Hid (OwnR wr w.heap.size u3 (gS S k)) := hown
    have HB : Hid _ := hbw
    have HSZ : Hid _ := hbw.size
    have c1 := HC0.out _ hbw
    clear hown hbw
    by_cases hlt : k < N
    · obtain ⟨d, xs, hd, hx, hcs, hby, hxl⟩ := (HW.out.below HB.out).at_ (k := k) (by rw [← HNN.out]; exact hlt)
      have hkN : (k : Int) < (N : Int) := by omega
      have hk0 : (0 : Int) ≤ (k : Int) := by omega
      have hkw : IntKind.i64.wrap ((k : Int) + 1) = ((k + 1 : Nat) : Int) := by rw [IntKind.wrap_i64]; omega
      obtain ⟨da, dn, dc⟩ := d
      have hdn := hby.n
      simp only at hdn
      have HXL : Hid ((S[k]?.getD []).length = dn) := by unfold Hid; rw [hx, hdn]; rfl
      clear hx hd hby hxl hdn
      obtain ⟨q1, hq1⟩ : ∃ q1, q1 = k + 1 := ⟨_, rfl⟩
      rw [← hq1] at hkw
      have HQ1 : Hid _ := hq1
      have hkm : q1 ≤ 64 := by omega
      clear hq1
      by_cases he : dn = 0
      · subst he
        have HON : Hid _ := gS_empty S k HXL.out
        go_wp2
        go_roundw
        case rel => exact ⟨k + 1, by omega, by rw [HQ1.out], by rw [HON.out]; exact HO.out, HB.out⟩
        case measure => simp [intOf]; have := HQ1.out; omega
      · have heb : ((dn : Int) == 0) = false := by simp; omega
        have HNZ : Hid ((S[k]?.getD []).length ≠ 0) := by unfold Hid; rw [HXL.out]; exact he
        have HOL : Hid _ := gS_len S k
        rcases k with _ | j
        · have HON : Hid _ := gS_push S 0 HNZ.out (.inl rfl)
          have h00 : decide ((0 : Int) < ((0 : Nat) : Int)) = false := by decide
          obtain ⟨rfl, -⟩ : q1 = 1 ∧ True := ⟨by rw [HQ1.out], trivial⟩
          go_wp2_with (at_builtin; refine wp_appR1 rfl _ _ rfl w.heap.size u3 (gS S 0) 0 rfl (((0 : Nat) : Int), (1 : Int)) wr.heap.size rfl (OwnR.below HO.out (al (Below.refl _ _) _)) rfl (heap_alloc_new wr _) (by omega) (by have := HSZ.out; simp; omega) ?_; intro g3 c3 w3 hown3 hg3 hlies3; have HO3 : Hid _ := hown3; have HG3 : Hid _ := hg3; clear hown3 hg3 hlies3)
          go_roundw
          case rel =>
            refine ⟨1, by omega, rfl, ?_, (HB.out.trans ((al (Below.refl _ _) _).mono HB.out.size)).grown HG3.out (by have := HSZ.out; simp; omega) (fun j hj => (World.ownsRow.lt HO.out j hj).1)⟩
            rw [show (1 : Nat) = 0 + 1 from rfl, HON.out]
            exact HO3.out
          case measure => simp [intOf]; omega
        · obtain ⟨d2, xs2, hd2, hx2, hcs2, hby2, hxl2⟩ := (HW.out.below HB.out).at_ (k := j) (by rw [← HNN.out]; omega)
          obtain ⟨da2, dn2, dc2⟩ := d2
          have hdn2 := hby2.n
          simp only at hdn2
          have HXL2 : Hid ((S[j]?.getD []).length = dn2) := by unfold Hid; rw [hx2, hdn2]; rfl
          have hkp : (0 : Int) < ((j + 1 : Nat) : Int) := by omega
          have hjw : IntKind.i64.wrap (((j + 1 : Nat) : Int) - 1) = (j : Int) := by rw [IntKind.wrap_i64]; omega
          have hj0 : (0 : Int) ≤ (j : Int) := by omega
          have hjN : (j : Int) < (N : Int) := by omega
          clear hx2 hd2 hby2 hxl2 hdn2
          obtain ⟨k1, hk1⟩ : ∃ k1, k1 = j + 1 := ⟨_, rfl⟩
          rw [← hk1] at hkp hjw hkw HO HNZ HOL hcs hkN hk0 HQ1 hlt hk ⊢
          have HK1 : Hid _ := hk1
          by_cases he2 : dn2 = 0
          · have HON : Hid (gS S (k1 + 1) = gS S k1 ++ [((k1 : Int), (k1 : Int) + 1)]) := gS_push S k1 HNZ.out (.inr ⟨j, hk1, by rw [HXL2.out]; exact he2⟩)
            obtain ⟨L, hL⟩ : ∃ L, L = (gS S k1).length := ⟨_, rfl⟩
            have HL : Hid _ := hL
            have hol : L ≤ 1099511627776 := by have := HOL.out; omega
            subst he2
            clear hk1 hL
            go_wp2_with (at_builtin; refine wp_appR1 rfl _ _ rfl w.heap.size u3 (gS S k1) L HL.out ((k1 : Int), (q1 : Int)) wr.heap.size rfl (OwnR.below HO.out (al (Below.refl _ _) _)) rfl (heap_alloc_new wr _) hol (by have := HSZ.out; simp; omega) ?_; intro g3 c3 w3 hown3 hg3 hlies3; have HO3 : Hid _ := hown3; have HG3 : Hid _ := hg3; clear hown3 hg3 hlies3)
            go_roundw
            case rel =>
              refine ⟨k1 + 1, by omega, by rw [HQ1.out], ?_, (HB.out.trans ((al (Below.refl _ _) _).mono HB.out.size)).grown HG3.out (by have := HSZ.out; simp; omega) (fun j hj => (World.ownsRow.lt HO.out j hj).1)⟩
              rw [HON.out]
              have h9 := HO3.out
              have e9 : (q1 : Int) = (k1 : Int) + 1 := by rw [HQ1.out]; rfl
              rw [e9] at h9
              exact h9
            case measure => simp [intOf]; have := HQ1.out; omega
          · obtain ⟨o, a, hoa⟩ := gS_last S j (by rw [HXL2.out]; exact he2)
            have e8 : ((j : Int) + 1) = (k1 : Int) := by rw [hk1]; rfl
            rw [← hk1, e8] at hoa
            have HON : Hid _ := gS_grow S k1 o a HNZ.out hoa
            have h2p : (0 : Int) < (dn2 : Int) := by omega
            have ho3 := HO.out
            rw [hoa] at ho3
            obtain ⟨a9, c9, hv9, -, -, -, -, hq9⟩ := OwnR.val ho3
            obtain ⟨m, hm⟩ : ∃ m, m = o.length := ⟨_, rfl⟩
            have hlen : (o ++ [(a, (k1 : Int))]).length = m + 1 := by rw [hm]; simp
            rw [hlen] at hv9
            have hmm : m + 1 ≤ 64 := by have := HOL.out; rw [hoa, hlen] at this; omega
            rcases a9 with _ | ⟨gq, oq, pq⟩
            · exfalso
              subst hv9
              rcases ho3.2 with ⟨e, h9⟩ | ⟨_, _, _, e, -⟩
              · rw [hlen] at h9; omega
              · cases e
            · obtain ⟨e1, e2, hgB, hgl⟩ := hq9 _ rfl
              simp only at e1 e2
              subst e1 e2
              obtain ⟨M, hM⟩ : ∃ M, M = m + 1 := ⟨_, rfl⟩
              rw [← hM] at hv9
              subst hv9
              have hct := ownR_to (n := M) (by rw [hM, hm]) ho3
              have hcf : wr.frozen? ⟨gq, m * 2 + 1, none⟩ = false := ownR_cold ho3 _
              rw [← hm] at hct
              have HS : Hid _ := ownR_set (n := M) (by rw [hM, hm]) ho3 ((k1 : Int) + 1)
              have HM : Hid _ := hM
              have HMO : Hid _ := hm
              have hMw : IntKind.i64.wrap ((M : Int) - 1) = (m : Int) := by rw [IntKind.wrap_i64]; omega
              have hm0 : (0 : Int) ≤ (m : Int) := by omega
              have hmM : (m : Int) < (M : Int) := by omega
              have hmM2 : m < M := by omega
              have HGB : Hid _ := hgB
              clear hk1 hM hm ho3 hoa hlen hgB hgl hq9 HO
              go_wp2
              go_roundw
              case rel =>
                have h9 := HS.out
                have e9 : (k1 : Int) + 1 = (q1 : Int) := by rw [HQ1.out]; rfl
                rw [← HMO.out, e9] at h9
                refine ⟨k1 + 1, by omega, by rw [HQ1.out], ?_, HB.out.grown h9.2 HSZ.out (fun j hj => by cases hj; exact HGB.out)⟩
                rw [HON.out, e9]
                exact h9.1
              case measure => simp [intOf]; have := HQ1.out; omega
    · obtain rfl : k = N := by omega
      go_wp2
      go_ret
      have h9 := gS_len S k
      have h8 := gS_got S
      rw [← HNN.out] at h8
      exact ⟨_, _, rfl, HO.out, h8, by omega, HB.out⟩
end
end Go.Proofs.YtdoikcolkbjnfaaGreat
