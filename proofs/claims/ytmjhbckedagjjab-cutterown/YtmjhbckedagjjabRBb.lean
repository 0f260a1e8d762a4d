import Derived.Test.YtmjhbckedagjjabRBa
namespace Go.Proofs.Ytmjhbckedagjjab
set_option linter.unusedVariables false
set_option linter.unusedSimpArgs false
open Go.RowKit
/-- a box of the document in memory -/
structure Rx (w : World) (q : Nat) (v : Value) (E : List Dc) (S : List Seg) : Prop where
  hp : w.heap[q]? = some (.cells #[v] tRb (0, 0))
  row : OwnG KL w 0 v E
  len : E.length = S.length
  n0 : 1 ≤ S.length
  n1 : S.length ≤ 64
  els : ∀ (i : Nat) d xs, E[i]? = some d → S[i]? = some xs → ByV w d xs ∧ xs.length ≤ 1024
def footR (q : Nat) (v : Value) (E : List Dc) (b : Nat) : Prop := b = q ∨ v.ownBlock = some b ∨ ∃ d ∈ E, ∃ ad, d.a = some ad ∧ ad.block = b
section
variable {w w' : World} {q : Nat} {v : Value} {E : List Dc} {S : List Seg}
theorem Rx.mem (h : Rx w q v E S) {d : Dc} (hd : d ∈ E) : ∃ xs, ByV w d xs := by
  obtain ⟨i, hi, rfl⟩ := List.mem_iff_getElem.1 hd
  have hS : i < S.length := by rw [← h.len]; exact hi
  exact ⟨_, (h.els i E[i] S[i] (List.getElem?_eq_getElem hi) (List.getElem?_eq_getElem hS)).1⟩
theorem Rx.lt (h : Rx w q v E S) {b : Nat} (hb : footR q v E b) : b < w.heap.size := by
  rcases hb with rfl | hb | ⟨d, hd, ad, ha, rfl⟩
  · exact (Array.getElem?_eq_some_iff.1 h.hp).1
  · exact (h.row.lt' hb).2
  · obtain ⟨xs, hx⟩ := h.mem hd
    exact hx.lt ha
theorem Rx.kept (h : Rx w q v E S) (hk : ∀ b, footR q v E b → w'.heap[b]? = w.heap[b]?) : Rx w' q v E S :=
  ⟨(hk q (.inl rfl)).trans h.hp, h.row.kept (fun b e => hk b (.inr (.inl e))), h.len, h.n0, h.n1, fun i d xs hd hx => by
    obtain ⟨h1, h2⟩ := h.els i d xs hd hx
    exact ⟨h1.kept (fun ad ha => hk _ (.inr (.inr ⟨d, List.mem_of_getElem? hd, ad, ha, rfl⟩))), h2⟩⟩
theorem Rx.below (h : Rx w q v E S) (hb : Below w.heap.size w w') : Rx w' q v E S := h.kept (fun b hf => hb.block b (h.lt hf))
theorem Rx.c0 (h : Rx w q v E S) : w.cell? ⟨q, 0, none⟩ = some v := by rw [cell_of_row _ _ _ _ _ _ h.hp]; rfl
theorem Rx.fz (h : Rx w q v E S) (i : Nat) : w.frozen? ⟨q, i, none⟩ = false := by simp [World.frozen?, h.hp]
theorem Rx.val (h : Rx w q v E S) : ∃ g c, v = .slice (some ⟨g, 0, none⟩) S.length c := by
  obtain ⟨g, c, hv, -⟩ := h.row.one (by rw [h.len]; exact h.n0)
  rw [h.len] at hv
  exact ⟨g, c, hv⟩
theorem Rx.rowL {g c : Nat} (h : Rx w q (.slice (some ⟨g, 0, none⟩) S.length c) E S) : RowL w (some ⟨g, 0, none⟩) S.length E S :=
  ⟨rfl, h.len, h.n0, h.n1, h.els, by have h9 := h.row; rw [← h.len] at h9; exact OwnG.rd h9⟩
theorem Rx.at_ {g c : Nat} (h : Rx w q (.slice (some ⟨g, 0, none⟩) S.length c) E S) {k : Nat} (hk : k < S.length) : ∃ d xs, E[k]? = some d ∧ S[k]? = some xs ∧ w.cell? ⟨g, k, none⟩ = some d.v ∧ ByV w d xs ∧ xs.length ≤ 1024 := by
  have := h.rowL.at_ hk
  simpa using this
theorem Rx.small (h : Rx w q v E S) : ∀ xs ∈ S, xs.length ≤ 1024 := fun xs hx => by
  obtain ⟨i, hi, rfl⟩ := List.mem_iff_getElem.1 hx
  have hV : i < E.length := by rw [h.len]; exact hi
  exact (h.els i E[i] S[i] (List.getElem?_eq_getElem hV) (List.getElem?_eq_getElem hi)).2
end
section
variable {w w' : World} {q : Nat} {E : List Dc} {S : List Seg} {g c : Nat}
set_option maxRecDepth 20000 in
set_option maxHeartbeats 1600000 in
theorem rnew_no (r : Int) (hr : ¬ (1 ≤ r ∧ r ≤ 64)) : Calls Try.prog 19 #[.int .i64 r] w fun e w' => e = .returned (.tuple #[.pointer none, .int .i64 1]) ∧ w' = w := by
  by_cases h1 : r < 1
  · go_enter Try.func19, Try.ntmps19
    go_wp2
    go_ret2
    exact ⟨rfl, rfl⟩
  · have h2 : 64 < r := by omega
    go_enter Try.func19, Try.ntmps19
    go_wp2
    go_ret2
    exact ⟨rfl, rfl⟩
theorem flat_rep (r : Nat) : KL.flat (List.replicate r Dc.z) = List.replicate r (Value.slice none 0 0) := by
  unfold Kd.flat
  induction r with
  | zero => rfl
  | succ r ih => rw [List.replicate_succ, List.flatMap_cons, ih, List.replicate_succ]; rfl
theorem make_lists (n : Nat) (hn : n ≤ 65536) (w : World) : (Instr.makeSlice 42 (.int .i64 (n : Int)) (.int .i64 (n : Int))).run Try.prog w = .ok (.slice (some ⟨w.heap.size, 0, none⟩) n n) (w.alloc (.cells (List.replicate n (Value.slice none 0 0)).toArray 30)) := by
  obtain ⟨i0, hi, hz0, hz1, hz2⟩ := info_parts KL.hi
  have hmk := run_make (P := Try.prog) w 42 30 i0 (.slice none 0 0) Try.underlying42 hi hz0 .i64 .i64 (n : Int) (n : Int) (by omega) (Int.le_refl _) (by rw [hz2]; show ((24 : Nat) : Int) * (n : Int) ≤ _; omega) (by omega)
  rw [hmk, hz1]
  simp only [Int.toNat_natCast]
  have e : madeCells (Value.cells (.slice none 0 0)) (n * 1) = (List.replicate n (Value.slice none 0 0)).toArray := by
    apply Array.ext_getElem?
    intro j
    by_cases hj : j < n
    · simp [madeCells, Value.cells, hj, Nat.mod_one]
    · rw [Array.getElem?_eq_none (by simp [madeCells]; omega), Array.getElem?_eq_none (by simp; omega)]
  first | rw [e] | (rw [show (n * 1) = n by omega] at e; rw [e])
theorem own_rep {w : World} {g B r : Nat} (hB : B ≤ g) (h : w.heap[g]? = some (.cells (List.replicate r (Value.slice none 0 0)).toArray 30 (0, 0))) (hr : r ≤ 65536) : OwnG KL w B (.slice (some ⟨g, 0, none⟩) r r) (List.replicate r Dc.z) := by
  refine ⟨by rw [Kd.flat_len], .inr ⟨g, r, _, by rw [List.length_replicate], hB, h, by simp, by simp only [maxLen]; omega, by simp, ?_⟩⟩
  rw [flat_rep]
  simp
set_option maxRecDepth 20000 in
set_option maxHeartbeats 1600000 in
theorem rnew_t (r : Nat) (h0 : 1 ≤ r) (h1 : r ≤ 64) : Calls Try.prog 19 #[.int .i64 (r : Int)] w fun e w' => e = .returned (.tuple #[.pointer (some ⟨w.heap.size + 1, 0, none⟩), .int .i64 0]) ∧ Rx w' (w.heap.size + 1) (.slice (some ⟨w.heap.size, 0, none⟩) r r) (List.replicate r Dc.z) (List.replicate r []) ∧ Below w.heap.size w w' := by
  have h2 : ¬ (r : Int) < 1 := by omega
  have h3 : ¬ 64 < (r : Int) := by omega
  go_enter Try.func19, Try.ntmps19
  have hmk := fun w => make_lists r (by omega) w
  go_wp2
  go_ret2
  refine ⟨rfl, ⟨?_, (own_rep (Nat.zero_le _) (heap_alloc_new w _) (by omega)).below (al (Below.refl _ _) _), by simp, by simpa using h0, by simpa using h1, fun i d xs hd hx => ?_⟩, al (al (Below.refl _ _) _) _⟩
  · have h9 := heap_alloc_new (w.alloc (.cells (List.replicate r (Value.slice none 0 0)).toArray 30)) (.cells #[.slice (some ⟨w.heap.size, 0, none⟩) r r] tRb)
    rw [show (w.alloc (.cells (List.replicate r (Value.slice none 0 0)).toArray 30)).heap.size = w.heap.size + 1 by simp] at h9
    exact h9
  · rw [List.getElem?_replicate] at hd hx
    split at hd
    · rename_i hi
      rw [if_pos hi] at hx
      cases hd
      cases hx
      exact ⟨ByV.none _, by simp⟩
    · cases hd
theorem foot_new {r a : Nat} {b : Nat} (hb : footR (a + 1) (.slice (some ⟨a, 0, none⟩) r r) (List.replicate r Dc.z) b) : a ≤ b := by
  rcases hb with rfl | hb | ⟨d, hd, ad, ha, -⟩
  · omega
  · cases hb; exact Nat.le_refl _
  · rw [List.eq_of_mem_replicate hd] at ha
    cases ha
set_option maxRecDepth 20000 in
set_option maxHeartbeats 1600000 in
theorem rcount_no : Calls Try.prog 24 #[.pointer none] w fun e w' => e = .returned (iv 0) ∧ w' = w := by
  go_enter Try.func24, Try.ntmps24
  go_wp2
  go_ret
  exact ⟨rfl, rfl⟩
set_option maxRecDepth 20000 in
set_option maxHeartbeats 1600000 in
theorem rcount_t (h : Rx w q (.slice (some ⟨g, 0, none⟩) S.length c) E S) : Calls Try.prog 24 #[.pointer (some ⟨q, 0, none⟩)] w fun e w' => e = .returned (iv S.length) ∧ w' = w := by
  have hc := h.c0
  clear h
  go_enter Try.func24, Try.ntmps24
  go_wp2
  go_ret
  exact ⟨rfl, rfl⟩
set_option maxRecDepth 20000 in
set_option maxHeartbeats 1600000 in
theorem rlength_no : Calls Try.prog 29 #[.pointer none] w fun e w' => e = .returned (.tuple #[iv 0, .bool false]) ∧ w' = w := by
  go_enter Try.func29, Try.ntmps29
  go_wp2
  go_ret2
  exact ⟨rfl, rfl⟩
set_option maxRecDepth 20000 in
set_option maxHeartbeats 1600000 in
theorem rlength_t (h : Rx w q (.slice (some ⟨g, 0, none⟩) S.length c) E S) : Calls Try.prog 29 #[.pointer (some ⟨q, 0, none⟩)] w fun e w' => e = .returned (.tuple #[iv (lenS S), .bool (decide (0 < lenS S))]) ∧ w' = w := by
  have hc := h.c0
  have HL : Hid _ := rlen_t (c := c) h.rowL
  clear h
  generalize lenS S = l at *
  have hd : decide (0 < (l : Int)) = decide (0 < l) := by simp
  have HD : Hid _ := hd
  clear hd
  go_enter Try.func29, Try.ntmps29
  go_wp2_with (go_at_call 40; refine Calls.mono HL.out ?_; rintro e w' ⟨rfl, hq⟩; have hq := hq.symm; subst hq)
  go_ret2
  first | exact ⟨rfl, rfl⟩ | (rw [← HD.out]; exact ⟨rfl, rfl⟩)
set_option maxRecDepth 20000 in
set_option maxHeartbeats 1600000 in
theorem rwhole_no : Calls Try.prog 30 #[.pointer none] w fun e w' => e = .returned (.tuple #[.slice none 0 0, .bool false]) ∧ w' = w := by
  go_enter Try.func30, Try.ntmps30
  go_wp2
  go_ret2
  exact ⟨rfl, rfl⟩
set_option maxRecDepth 20000 in
set_option maxHeartbeats 3200000 in
theorem rwhole_t (h : Rx w q (.slice (some ⟨g, 0, none⟩) S.length c) E S) : Calls Try.prog 30 #[.pointer (some ⟨q, 0, none⟩)] w fun e w' => ∃ u, e = .returned (.tuple #[u, .bool (wholeB (some S))]) ∧ Own w' w.heap.size u (wholeX (some S)) ∧ Below w.heap.size w w' := by
  have HW : Hid _ := h
  have hn1 := h.n1
  have hq := (Array.getElem?_eq_some_iff.1 h.hp).1
  have c0 := h.c0
  clear h
  go_enter Try.func30, Try.ntmps30
  go_wp2
  go_loopw [4, 5] (fun v j wr => WRel S w v j wr) (fun _ j _ => S.length - (intOf j).toNat)
  case atStart => exact ⟨0, Nat.zero_le _, rfl, World.ownsRow_nil _ _ _ _, fun i x hi => absurd hi (Nat.not_lt_zero _), Below.refl _ _⟩
  case round =>
    obtain ⟨k, hk, rfl, hown, hall, hbw⟩ := hrel
    have HO : Hid (Own wr w.heap.size u4 (S.take k).flatten) := hown
    have HB : Hid _ := hbw
    have HALL : Hid _ := hall
    have c1 := (HW.out.below hbw).c0
    clear hown hbw hall
    by_cases hlt : k < S.length
    · obtain ⟨d, xs, hd, hx, hcs, hby, hxl⟩ := (HW.out.below HB.out).at_ hlt
      have hkN : (k : Int) < (S.length : Int) := by omega
      have hk0 : (0 : Int) ≤ (k : Int) := by omega
      have hkw : IntKind.i64.wrap ((k : Int) + 1) = ((k + 1 : Nat) : Int) := by rw [IntKind.wrap_i64]; omega
      obtain ⟨da, dn, dc⟩ := d
      have hdn := hby.n
      simp only at hdn
      have HDN : Hid _ := hdn
      have HBY : Hid _ := hby
      have HX : Hid _ := hx
      by_cases he : dn = 0
      · subst he
        have HA : Hid (allS S = false) := allS_no (k := k) (by rw [hx, List.eq_nil_of_length_eq_zero hdn.symm])
        clear hx hd hby hdn
        go_wp2
        go_ret2
        have e1 : wholeB (some S) = false := HA.out
        have e2 : wholeX (some S) = [] := by show (if allS S = true then S.flatten else []) = []; rw [HA.out]; rfl
        rw [e1, e2]
        exact ⟨_, rfl, World.ownsRow_nil _ _ _ _, HB.out⟩
      · have HT : Hid _ := take_flat S k xs hx
        have heb : ((dn : Int) == 0) = false := by simp; omega
        have HE : Hid (xs ≠ []) := fun e => he (by rw [hdn, e]; rfl)
        have hfl : (S.take k).flatten.length ≤ 65536 := by
          have h1 := flat_le (S := S.take k) (fun y hy => HW.out.small y (List.mem_of_mem_take hy))
          rw [List.length_take] at h1
          have h2 : min k S.length * 1024 ≤ 64 * 1024 := Nat.mul_le_mul_right _ (by omega)
          omega
        have HSZ : Hid _ := HB.out.size
        subst hdn
        clear hx hd hby he
        go_wp2_with (at_builtin; refine wp_app rfl _ _ rfl w.heap.size u4 (S.take k).flatten xs _ _ rfl HO.out rfl HBY.out.rd HBY.out.nil (by omega) HSZ.out ?_; intro v2 w2 hown2 hg2)
        go_roundw
        case rel =>
          refine ⟨k + 1, hlt, by go_num, by rw [HT.out]; exact hown2, fun i x hi hx => ?_, HB.out.grown hg2 HSZ.out (fun j hj => (World.ownsRow.lt HO.out j hj).1)⟩
          by_cases hik : i = k
          · subst hik
            rw [HX.out] at hx
            cases hx
            exact HE.out
          · exact HALL.out i x (by omega) hx
        case measure => simp [intOf]; omega
    · obtain rfl : k = S.length := by omega
      go_wp2
      go_ret2
      have ha : allS S = true := allS_yes (fun j x hj hx => HALL.out j x hj hx)
      have e1 : wholeB (some S) = true := ha
      have e2 : wholeX (some S) = S.flatten := by show (if allS S = true then S.flatten else []) = S.flatten; rw [ha]; rfl
      rw [e1, e2]
      have h9 := HO.out
      rw [List.take_length] at h9
      exact ⟨_, rfl, h9, HB.out⟩
end
end Go.Proofs.Ytmjhbckedagjjab
