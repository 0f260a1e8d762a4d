import Derived.Test.YtdoikcolkbjnfaaGreatRL
namespace Go.Proofs.YtdoikcolkbjnfaaGreat
set_option linter.unusedVariables false
set_option linter.unusedSimpArgs false
open Go.RowKit
section
variable {w w' w1 : World} {B : Nat} {v : Value} {E : List Dc} {T : List (List UInt8)}
theorem Lists.cellAt {g n c : Nat} (h : Lists w B (.slice (some ⟨g, 0, none⟩) n c) E T) (hn : n = E.length) {i : Nat} {d : Dc} (hd : E[i]? = some d) : w.cell? ⟨g, i, none⟩ = some d.v := by
  obtain ⟨hi, e⟩ := List.getElem?_eq_some_iff.1 hd
  have := h.row.cell hn i 0 hi (by decide)
  rw [e] at this
  simpa using this
end
end Go.Proofs.YtdoikcolkbjnfaaGreat
namespace Go.Proofs.YtdoikcolkbjnfaaGreat
set_option linter.unusedVariables false
set_option linter.unusedSimpArgs false
open Go.RowKit
section
variable {w w' : World}
end
end Go.Proofs.YtdoikcolkbjnfaaGreat
namespace Go.Proofs.YtdoikcolkbjnfaaGreat
set_option linter.unusedVariables false
set_option linter.unusedSimpArgs false
open Go.RowKit
theorem frL_at : ∀ {D : List Seg} {k : Nat} {x : Seg}, (∀ (j : Nat) y, j < k → D[j]? = some y → y.length = 0) → D[k]? = some x → x.length ≠ 0 → frL D = x.length
  | [], k, x, _, hx, _ => by simp at hx
  | z :: r, 0, x, _, hx, h0 => by
    simp at hx
    subst hx
    unfold frL
    rw [if_neg h0]
  | z :: r, k + 1, x, h, hx, h0 => by
    have hz := h 0 z (by omega) (by simp)
    unfold frL
    rw [if_pos hz]
    exact frL_at (k := k) (fun j y hj hy => h (j + 1) y (by omega) (by simpa using hy)) (by simpa using hx) h0
theorem lenS_at {S : List Seg} {k : Nat} {x : Seg} (hk : k + 1 < S.length) (h : ∀ (j : Nat) y, j < k → S[j]? = some y → y.length = 0) (hx : S[k]? = some x) (h0 : x.length ≠ 0) : lenS S = x.length := by
  unfold lenS
  refine frL_at (k := k) (fun j y hj hy => h j y hj ?_) ?_ h0
  · rw [List.getElem?_take_of_lt (by omega)] at hy; exact hy
  · rw [List.getElem?_take_of_lt (by omega)]; exact hx
theorem lenS_0 {S : List Seg} (h : ∀ (j : Nat) y, j + 1 < S.length → S[j]? = some y → y.length = 0) : lenS S = 0 := by
  unfold lenS
  refine frL_zero.2 (fun x hx => ?_)
  obtain ⟨j, hj, rfl⟩ := List.mem_iff_getElem.1 hx
  rw [List.length_take] at hj
  refine h j _ (by omega) ?_
  rw [List.getElem_take]
  exact List.getElem?_eq_getElem (by omega)
/-- a row of lists as it is read -/
structure RowL (w : World) (a : Option Addr) (n : Nat) (E : List Dc) (S : List Seg) : Prop where
  hn : n = S.length
  len : E.length = S.length
  n0 : 1 ≤ S.length
  n1 : S.length ≤ 64
  els : ∀ (i : Nat) d xs, E[i]? = some d → S[i]? = some xs → ByV w d xs ∧ xs.length ≤ 1024
  rd : RdG KL w a E
theorem RowL.kept {w w' : World} {a : Option Addr} {n : Nat} {E : List Dc} {S : List Seg} (h : RowL w a n E S) (hb : Below w.heap.size w w') : RowL w' a n E S := ⟨h.hn, h.len, h.n0, h.n1, fun i d xs hd hx => ⟨(h.els i d xs hd hx).1.below hb, (h.els i d xs hd hx).2⟩, h.rd.below hb⟩
theorem RowL.addr {w : World} {a : Option Addr} {n : Nat} {E : List Dc} {S : List Seg} (h : RowL w a n E S) : ∃ b o, a = some ⟨b, o, none⟩ := by
  obtain ⟨b, o, h1, -⟩ := h.rd 0 (by rw [h.len]; exact h.n0)
  exact ⟨b, o, h1⟩
theorem RowL.at_ {w : World} {b o n : Nat} {E : List Dc} {S : List Seg} (h : RowL w (some ⟨b, o, none⟩) n E S) {k : Nat} (hk : k < n) : ∃ d xs, E[k]? = some d ∧ S[k]? = some xs ∧ w.cell? ⟨b, o + k, none⟩ = some d.v ∧ ByV w d xs ∧ xs.length ≤ 1024 := by
  rw [h.hn] at hk
  have hE : k < E.length := by rw [h.len]; exact hk
  have h1 := List.getElem?_eq_getElem hE
  have h2 := List.getElem?_eq_getElem hk
  obtain ⟨b', o', e, h3, -⟩ := h.rd k hE
  cases e
  have h4 := h3 0 (Dc.v E[k]) rfl
  simp at h4
  exact ⟨_, _, h1, h2, h4, h.els k _ _ h1 h2⟩
section
variable {w w' : World} {a : Option Addr} {n c : Nat} {E : List Dc} {S : List Seg}
set_option maxRecDepth 20000 in
set_option maxHeartbeats 1600000 in
theorem rlen_t (h : RowL w a n E S) : Calls Tryz.prog 118 #[.slice a n c] w fun e w' => e = .returned (iv (lenS S)) ∧ w' = w := by
  obtain ⟨b, o, rfl⟩ := h.addr
  have HW : Hid _ := h
  have HN : Hid _ := h.hn
  have hn1 := h.n1
  have hn0 := h.n0
  rw [← h.hn] at hn0 hn1
  clear h
  go_enter Tryz.func118, Tryz.ntmps118
  go_wp2
  go_loopw [3] (fun j wr => ∃ k : Nat, k < n ∧ j = .int .i64 (k : Int) ∧ (∀ (i : Nat) y, i < k → S[i]? = some y → y.length = 0) ∧ wr = w) (fun j _ => n - (intOf j).toNat)
  case atStart => exact ⟨0, by omega, rfl, fun i y hi => absurd hi (Nat.not_lt_zero _), rfl⟩
  case round =>
    obtain ⟨k, hk, rfl, hall, hq⟩ := hrel
    have hq := hq.symm
    subst hq
    have hkw : IntKind.i64.wrap ((k : Int) + 1) = ((k + 1 : Nat) : Int) := by rw [IntKind.wrap_i64]; omega
    obtain ⟨d, xs, hd, hx, hcl, hby, hxl⟩ := HW.out.at_ hk
    have HALL : Hid _ := hall
    have HX : Hid _ := hx
    have hk0 : (0 : Int) ≤ (k : Int) := by omega
    have hkn : (k : Int) < (n : Int) := by omega
    obtain ⟨da, dn, dc⟩ := d
    have hdn := hby.n
    simp only at hdn
    have HDN : Hid _ := hdn
    clear hall hx hd hby hdn
    by_cases hlt : k + 1 < n
    · have hltI : ((k + 1 : Nat) : Int) < (n : Int) := by omega
      by_cases h0 : 0 < dn
      · have h0I : (0 : Int) < (dn : Int) := by omega
        go_wp2
        go_ret
        have h9 := lenS_at (S := S) (k := k) (x := xs) (by rw [← HN.out]; exact hlt) HALL.out HX.out (by rw [← HDN.out]; omega)
        rw [h9, ← HDN.out]
        exact ⟨rfl, rfl⟩
      · have h0I : ¬ (0 : Int) < (dn : Int) := by omega
        go_wp2
        go_roundw
        case rel =>
          refine ⟨k + 1, hlt, by go_num, fun i y hi hy => ?_, by first | rfl | trivial⟩
          by_cases hik : i = k
          · subst hik
            rw [HX.out] at hy
            cases hy
            rw [← HDN.out]
            omega
          · exact HALL.out i y (by omega) hy
        case measure => simp [intOf]; omega
    · have hltI : ¬ ((k + 1 : Nat) : Int) < (n : Int) := by omega
      go_wp2
      go_ret
      have h9 : lenS S = 0 := lenS_0 (fun j y hj hy => HALL.out j y (by have := HN.out; omega) hy)
      rw [h9]
      exact ⟨rfl, rfl⟩
theorem lastS_at (h : RowL w a n E S) {x : Seg} (hx : S[n - 1]? = some x) : lastS S = x.length := by
  unfold lastS
  rw [← h.hn, hx]
  rfl
theorem fit_split {S : List Seg} (l z : Nat) (hl : lenS S = l) (hz : lastS S = z) (h : ∀ (j : Nat) y, j + 1 < S.length → S[j]? = some y → y.length = 0 ∨ y.length = l) : fitS S = capB S.length l z := by
  unfold fitS
  rw [hl, hz, uniD_iff.2 (fun x hx => ?_), Bool.true_and]
  obtain ⟨j, hj, rfl⟩ := List.mem_iff_getElem.1 hx
  rw [List.length_take] at hj
  refine h j _ (by omega) ?_
  rw [List.getElem_take]
  exact List.getElem?_eq_getElem (by omega)
theorem fit_split_no {S : List Seg} {k : Nat} {y : Seg} (hk : k + 1 < S.length) (hy : S[k]? = some y) (h0 : y.length ≠ 0) (h1 : y.length ≠ lenS S) : fitS S = false := by
  rcases hf : fitS S with _ | _
  · rfl
  · have hu := uniD_iff.1 (fit_uni hf) y (by
      refine List.mem_iff_getElem?.2 ⟨k, ?_⟩
      rw [List.getElem?_take_of_lt (by omega)]
      exact hy)
    omega
set_option maxRecDepth 20000 in
set_option maxHeartbeats 1600000 in
theorem rfits_t (h : RowL w a n E S) : Calls Tryz.prog 91 #[.slice a n c] w fun e w' => e = .returned (.bool (fitS S)) ∧ w' = w := by
  have HLN : Hid _ := rlen_t (c := c) h
  obtain ⟨b, o, rfl⟩ := h.addr
  have HW : Hid _ := h
  have HN : Hid _ := h.hn
  have hn1 := h.n1
  have hn0 := h.n0
  rw [← h.hn] at hn0 hn1
  obtain ⟨l, hl⟩ : ∃ l, l = lenS S := ⟨_, rfl⟩
  rw [← hl] at HLN
  have HLL : Hid _ := hl
  have hlm : l ≤ 1024 := by
    rw [hl]
    refine lenS_le (fun xs hx => ?_)
    obtain ⟨i, hi, rfl⟩ := List.mem_iff_getElem.1 hx
    obtain ⟨d, ys, -, hy, -, -, hyl⟩ := h.at_ (k := i) (by rw [h.hn]; exact hi)
    rw [List.getElem?_eq_getElem hi] at hy
    cases hy
    exact hyl
  obtain ⟨dl, xl, -, hxl, hcl, hbyl, hxll⟩ := h.at_ (k := n - 1) (by omega)
  obtain ⟨la, z, lc⟩ := dl
  have hz := hbyl.n
  simp only at hz
  have HZ : Hid (lastS S = z) := by unfold Hid; rw [lastS_at h hxl, hz]
  have hzm : z ≤ 1024 := by omega
  have hnw : IntKind.i64.wrap ((n : Int) - 1) = ((n - 1 : Nat) : Int) := by rw [IntKind.wrap_i64]; omega
  have hni : ((n - 1 : Nat) : Int) < (n : Int) := by omega
  have hn0i : (0 : Int) ≤ ((n - 1 : Nat) : Int) := by omega
  clear h hl hxl hbyl hz
  go_enter Tryz.func91, Tryz.ntmps91
  go_wp2_with (go_at_call 118; refine Calls.mono HLN.out ?_; rintro e w' ⟨rfl, hq⟩; have hq := hq.symm; subst hq)
  go_loopw [5] (fun j wr => ∃ k : Nat, k < n ∧ j = .int .i64 (k : Int) ∧ (∀ (i : Nat) y, i < k → S[i]? = some y → y.length = 0 ∨ y.length = l) ∧ wr = w) (fun j _ => n - (intOf j).toNat)
  case atStart => exact ⟨0, by omega, rfl, fun i y hi => absurd hi (Nat.not_lt_zero _), rfl⟩
  case round =>
    obtain ⟨k, hk, rfl, hall, hq⟩ := hrel
    have hq := hq.symm
    subst hq
    have hkw : IntKind.i64.wrap ((k : Int) + 1) = ((k + 1 : Nat) : Int) := by rw [IntKind.wrap_i64]; omega
    have HALL : Hid _ := hall
    have hk0 : (0 : Int) ≤ (k : Int) := by omega
    have hkn : (k : Int) < (n : Int) := by omega
    clear hall
    by_cases hlt : k + 1 < n
    · obtain ⟨d, xs, hd, hx, hck, hby, hxl⟩ := HW.out.at_ hk
      have HX : Hid _ := hx
      obtain ⟨da, dn, dc⟩ := d
      have hdn := hby.n
      simp only at hdn
      have HDN : Hid _ := hdn
      clear hx hd hby hdn
      have hltI : ((k + 1 : Nat) : Int) < (n : Int) := by omega
      by_cases h0 : 0 < dn
      · have h0I : (0 : Int) < (dn : Int) := by omega
        by_cases he : dn = l
        · have heb : ((dn : Int) != (l : Int)) = false := by simp; omega
          have HE : Hid _ := he
          clear he
          go_wp2
          go_roundw
          case rel =>
            refine ⟨k + 1, hlt, by go_num, fun i y hi hy => ?_, by first | rfl | trivial⟩
            by_cases hik : i = k
            · subst hik
              rw [HX.out] at hy
              cases hy
              rw [← HDN.out]
              exact .inr HE.out
            · exact HALL.out i y (by omega) hy
          case measure => simp [intOf]; omega
        · have heb : ((dn : Int) != (l : Int)) = true := by simp; omega
          have hei : ¬ (dn : Int) = (l : Int) := by omega
          go_wp2
          go_ret
          have h9 : fitS S = false := fit_split_no (k := k) (by rw [← HN.out]; exact hlt) HX.out (by rw [← HDN.out]; omega) (by rw [← HDN.out, ← HLL.out]; exact he)
          rw [h9]
          exact ⟨rfl, rfl⟩
      · have h0I : ¬ (0 : Int) < (dn : Int) := by omega
        go_wp2
        go_roundw
        case rel =>
          refine ⟨k + 1, hlt, by go_num, fun i y hi hy => ?_, by first | rfl | trivial⟩
          by_cases hik : i = k
          · subst hik
            rw [HX.out] at hy
            cases hy
            rw [← HDN.out]
            exact .inl (by omega)
          · exact HALL.out i y (by omega) hy
        case measure => simp [intOf]; omega
    · have hltI : ¬ ((k + 1 : Nat) : Int) < (n : Int) := by omega
      have HFS : Hid (fitS S = capB n l z) := by
        unfold Hid
        rw [fit_split l z HLL.out.symm HZ.out (fun j y hj hy => HALL.out j y (by have := HN.out; omega) hy), ← HN.out]
      by_cases hl0 : l = 0
      · subst hl0
        have hm : n * z ≤ 64 * 1024 := mul_le' hn1 hzm
        obtain ⟨M, hM⟩ : ∃ M, M = n * z := ⟨_, rfl⟩
        rw [← hM] at hm
        have hw : IntKind.i64.wrap ((n : Int) * (z : Int)) = (M : Int) := by rw [← Int.natCast_mul, ← hM, IntKind.wrap_i64]; omega
        have HM : Hid _ := hM
        clear hM
        go_wp2
        go_ret
        rw [HFS.out]
        refine ⟨?_, rfl⟩
        have e1 : capB n 0 z = decide (M ≤ 1024) := by rw [HM.out]; rfl
        rw [e1]
        have hd : decide ((M : Int) ≤ 1024) = decide (M ≤ 1024) := by simp; omega
        first | rfl | exact congrArg (fun b => Ending.returned (Value.bool b)) hd | exact congrArg (fun b => Ending.returned (Value.bool b)) (decide_eq_decide.2 Iff.rfl)
      · have hlb : ((l : Int) == 0) = false := by simp; omega
        by_cases hzl : z ≤ l
        · have hzi : (z : Int) ≤ (l : Int) := by omega
          obtain ⟨M, hM⟩ : ∃ M, M = (n - 1) * l := ⟨_, rfl⟩
          have hm : M ≤ 64 * 1024 := by rw [hM]; exact mul_le' (by omega) hlm
          have hw : IntKind.i64.wrap (((n - 1 : Nat) : Int) * (l : Int)) = (M : Int) := by rw [← Int.natCast_mul, ← hM, IntKind.wrap_i64]; omega
          have hw3 : IntKind.i64.wrap ((M : Int) + 1) = ((M + 1 : Nat) : Int) := by rw [IntKind.wrap_i64]; omega
          have hw4 : IntKind.i64.wrap ((M : Int) + (z : Int)) = ((M + z : Nat) : Int) := by rw [IntKind.wrap_i64]; omega
          have HM : Hid _ := hM
          clear hM
          go_wp2
          all_goals
            go_ret
            rw [HFS.out]
            refine ⟨?_, rfl⟩
            have e1 : capB n l z = decide (M + max 1 z ≤ 1024) := by unfold capB; rw [if_neg hl0, decide_eq_true hzl, HM.out, Bool.true_and]
            rw [e1]
            first
              | exact congrArg (fun b => Ending.returned (Value.bool b)) (decide_eq_decide (p := (M : Int) + (z : Int) ≤ 1024).2 (by constructor <;> intro h9 <;> omega))
              | exact congrArg (fun b => Ending.returned (Value.bool b)) (decide_eq_decide (p := (M : Int) + 1 ≤ 1024).2 (by constructor <;> intro h9 <;> omega))
        · have hzi : ¬ (z : Int) ≤ (l : Int) := by omega
          go_wp2
          go_ret
          rw [HFS.out]
          have e1 : capB n l z = false := by unfold capB; rw [if_neg hl0, decide_eq_false hzl, Bool.false_and]
          rw [e1]
          exact ⟨rfl, rfl⟩
end
end Go.Proofs.YtdoikcolkbjnfaaGreat
