import Derived.Test.YtmjhbckedagjjabCF
namespace Go.Proofs.Ytmjhbckedagjjab
set_option linter.unusedVariables false
set_option linter.unusedSimpArgs false
open Go.RowKit
theorem take_flat (S : List Seg) (k : Nat) (x : Seg) (hx : S[k]? = some x) : (S.take (k + 1)).flatten = (S.take k).flatten ++ x := by
  rw [List.take_add_one, hx]
  simp
theorem flat_le {S : List Seg} (h : ∀ xs ∈ S, xs.length ≤ 1024) : S.flatten.length ≤ S.length * 1024 := by
  induction S with
  | nil => simp
  | cons x r ih =>
    have h1 := ih (fun xs hx => h xs (by simp [hx]))
    have h2 := h x (by simp)
    rw [List.flatten_cons, List.length_append, List.length_cons, Nat.succ_mul]
    omega
theorem allS_no {S : List Seg} {k : Nat} (h : S[k]? = some []) : allS S = false := by
  rcases ha : allS S with _ | _
  · rfl
  · unfold allS at ha
    rw [List.all_eq_true] at ha
    have := ha [] (List.mem_of_getElem? h)
    simp at this
theorem allS_yes {S : List Seg} (h : ∀ (j : Nat) x, j < S.length → S[j]? = some x → x ≠ []) : allS S = true := by
  unfold allS
  rw [List.all_eq_true]
  intro x hx
  obtain ⟨j, hj, rfl⟩ := List.mem_iff_getElem.1 hx
  have := h j _ hj (List.getElem?_eq_getElem hj)
  simp only [bne_iff_ne]
  intro e
  exact this (List.eq_nil_of_length_eq_zero e)
section
variable {w w' : World} {p : Nat} {V : List Dc} {S : List Seg}
set_option maxRecDepth 20000 in
set_option maxHeartbeats 1600000 in
theorem whole_no {q : Option Addr} (h : B0 w q) : Calls Try.prog 15 #[.pointer q] w fun e w' => e = .returned (.tuple #[.slice none 0 0, .bool false]) ∧ w' = w := by
  have H : Hid _ := made_no h
  clear h
  go_enter Try.func15, Try.ntmps15
  go_wp2_with (go_at_call 32; refine Calls.mono H.out ?_; rintro e w' ⟨rfl, hq⟩; have hq := hq.symm; subst hq)
  go_ret2
  exact ⟨rfl, rfl⟩
/-- what the loop of Whole keeps -/
def WRel (S : List Seg) (w : World) (v j : Value) (wr : World) : Prop := ∃ k : Nat, k ≤ S.length ∧ j = .int .i64 (k : Int) ∧ Own wr w.heap.size v (S.take k).flatten ∧ (∀ (i : Nat) x, i < k → S[i]? = some x → x ≠ []) ∧ Below w.heap.size w wr
set_option maxRecDepth 20000 in
set_option maxHeartbeats 3200000 in
theorem whole_t (h : Bx w p V S) : Calls Try.prog 15 #[.pointer (some ⟨p, 0, none⟩)] w fun e w' => ∃ u, e = .returned (.tuple #[u, .bool (wholeB (some S))]) ∧ Own w' w.heap.size u (wholeX (some S)) ∧ Below w.heap.size w w' := by
  have H : Hid _ := made_t h
  have HW : Hid _ := h
  have c0 := h.c0
  have hn1 := h.n1
  have q22 : ∀ (w : World) (a : Option Addr) (n c n' c' : Nat), (binOp .eql 30 (.slice a n c) (.slice none n' c')).run Try.prog w = .ok (.bool a.isNone) w := fun w a n c n' c' => Lib.run_eql_slice_nil w _ _ a n c n' c' Try.underlying30
  clear h
  go_enter Try.func15, Try.ntmps15
  go_wp2_with (go_at_call 32; refine Calls.mono H.out ?_; rintro e w' ⟨rfl, hq⟩; have hq := hq.symm; subst hq)
  go_loopw [4, 14] (fun v j wr => WRel S w v j wr) (fun _ j _ => S.length - (intOf j).toNat)
  case atStart => exact ⟨0, Nat.zero_le _, rfl, World.ownsRow_nil _ _ _ _, fun i x hi => absurd hi (Nat.not_lt_zero _), Below.refl _ _⟩
  case round =>
    obtain ⟨k, hk, rfl, hown, hall, hbw⟩ := hrel
    have HO : Hid (Own wr w.heap.size u4 (S.take k).flatten) := hown
    have HB : Hid _ := hbw
    have HALL : Hid _ := hall
    clear hown hbw hall
    by_cases hlt : k < S.length
    · obtain ⟨d, xs, hd, hx, hcs, hby, hz, hxl⟩ := (HW.out.below HB.out).at_ hlt
      have hk64 : k < 64 := by omega
      have hkI : (k : Int) < 64 := by omega
      have hkN : (k : Int) < (S.length : Int) := by omega
      have hk0 : (0 : Int) ≤ (k : Int) := by omega
      have hkw : IntKind.i64.wrap ((k : Int) + 1) = ((k + 1 : Nat) : Int) := by rw [IntKind.wrap_i64]; omega
      by_cases he : xs = []
      · obtain rfl := hz he
        subst he
        have HA : Hid _ := allS_no hx
        clear hz hx hd hby hxl
        go_wp2
        go_ret2
        have e1 : wholeB (some S) = false := HA.out
        have e2 : wholeX (some S) = [] := by show (if allS S = true then S.flatten else []) = []; rw [HA.out]; rfl
        rw [e1, e2]
        exact ⟨_, rfl, World.ownsRow_nil _ _ _ _, HB.out⟩
      · have hpos : 0 < xs.length := by rcases xs with _ | ⟨y, ys⟩; exact absurd rfl he; simp
        have hsm := hby.some_ hpos
        have HBY : Hid _ := hby
        have HT : Hid _ := take_flat S k xs hx
        have HX : Hid _ := hx
        have HE : Hid (xs ≠ []) := he
        have hfl : (S.take k).flatten.length ≤ 65536 := by
          have h1 := flat_le (S := S.take k) (fun y hy => HW.out.small y (List.mem_of_mem_take hy))
          rw [List.length_take] at h1
          have h2 : min k S.length * 1024 ≤ 64 * 1024 := Nat.mul_le_mul_right _ (by omega)
          omega
        have HSZ : Hid _ := HB.out.size
        obtain ⟨da, dn, dc⟩ := d
        have hdn := hby.n
        simp only at hdn hsm
        subst hdn
        clear hz hx hd hby he
        go_wp2_with (at_builtin; refine wp_app rfl _ _ rfl w.heap.size u4 (S.take k).flatten xs _ _ rfl HO.out rfl HBY.out.rd HBY.out.nil (by omega) HSZ.out ?_; intro v2 w2 hown2 hg2)
        go_roundw
        case rel =>
          refine ⟨k + 1, hlt, by go_num, by rw [HT.out]; exact hown2, fun i x hi hx => ?_, HB.out.grown hg2 HSZ.out (fun j hj => (World.ownsRow.lt HO.out j hj).1)⟩
          by_cases hik : i = k
          · subst hik
            rw [HX.out] at hx
            cases hx
            exact HE.out
          · exact HALL.out i x (by omega) hx
        case measure => simp [intOf]; omega
    · obtain rfl : k = S.length := by omega
      go_wp2
      go_ret2
      have ha : allS S = true := allS_yes (fun j x hj hx => HALL.out j x hj hx)
      have e1 : wholeB (some S) = true := ha
      have e2 : wholeX (some S) = S.flatten := by show (if allS S = true then S.flatten else []) = S.flatten; rw [ha]; rfl
      rw [e1, e2]
      have h9 := HO.out
      rw [List.take_length] at h9
      exact ⟨_, rfl, h9, HB.out⟩
end
end Go.Proofs.Ytmjhbckedagjjab
