import Derived.Test.YtnfikcegmicooabDoorWhZ
namespace Go.Proofs.YtnfikcegmicooabDoor
set_option linter.unusedVariables false
set_option linter.unusedSimpArgs false
open Go.RowKit Go.Maps Go.Shelf
/-- numbers that can be read -/
def RdZ (w : World) (v : Value) (zs : List Int) : Prop := ∃ a c, v = .slice a zs.length c ∧ ∀ j (hj : j < zs.length), ∃ b o, a = some ⟨b, o, none⟩ ∧ w.cell? ⟨b, o + j, none⟩ = some (.int .i64 zs[j])
theorem RdZ.below {w w' : World} {v : Value} {zs : List Int} (h : RdZ w v zs) (hb : Below w.heap.size w w') : RdZ w' v zs := by
  obtain ⟨a, c, h1, h2⟩ := h
  refine ⟨a, c, h1, fun j hj => ?_⟩
  obtain ⟨b, o, h3, h4⟩ := h2 j hj
  exact ⟨b, o, h3, (hb.cell (World.block_lt_of_cell? w _ h4)).trans h4⟩
theorem OwnZ.rd {w : World} {B : Nat} {v : Value} {zs : List Int} (h : OwnZ w B v zs) : RdZ w v zs := by
  have h' := h
  rcases h.2 with ⟨rfl, h0⟩ | ⟨g, cap, cur, rfl, hB, hg, hc, r⟩
  · obtain rfl : zs = [] := List.eq_nil_of_length_eq_zero h0
    exact ⟨none, 0, rfl, fun j hj => absurd hj (Nat.not_lt_zero _)⟩
  · refine ⟨_, cap, rfl, fun j hj => ⟨g, 0, rfl, ?_⟩⟩
    rw [Nat.zero_add, World.ownsRow.cellAt h' j (by omega)]
    simp [hj]
theorem RdZ.nil (w : World) : RdZ w (.slice none 0 0) [] := ⟨none, 0, rfl, fun j hj => absurd hj (Nat.not_lt_zero _)⟩
theorem OwnZ.len {w : World} {B : Nat} {v : Value} {zs : List Int} (h : OwnZ w B v zs) : zs.length ≤ 9223372036854775807 := by
  rcases h.2 with ⟨rfl, h0⟩ | ⟨g, cap, cur, rfl, hB, hg, h1, h2, -⟩
  · omega
  · simp only [maxLen] at h2; omega
set_option maxRecDepth 20000 in
set_option maxHeartbeats 1600000 in
theorem same_t (v1 v2 : Value) (zs ys : List Int) (w : World) (h1 : RdZ w v1 zs) (h2 : RdZ w v2 ys) (hl : zs.length ≤ 9223372036854775806) (hl2 : ys.length ≤ 9223372036854775806) :
    Calls Tryd.prog 13 #[v1, v2] w fun e w' => e = .returned (.bool (decide (zs = ys))) ∧ Drw w w' := by
  obtain ⟨a1, c1, rfl, r1⟩ := h1
  obtain ⟨a2, c2, rfl, r2⟩ := h2
  obtain ⟨n1, hn1⟩ : ∃ n, n = zs.length := ⟨_, rfl⟩
  obtain ⟨n2, hn2⟩ : ∃ n, n = ys.length := ⟨_, rfl⟩
  rw [← hn1] at hl ⊢
  rw [← hn2] at hl2 ⊢
  have HN1 : Hid _ := hn1
  have HN2 : Hid _ := hn2
  have HR1 : Hid _ := r1
  have HR2 : Hid _ := r2
  clear hn1 hn2 r1 r2
  obtain ⟨B, hB⟩ : ∃ B, B = decide (zs = ys) := ⟨_, rfl⟩
  rw [← hB]
  have HB : Hid _ := hB
  clear hB
  go_enter Tryd.func13, Tryd.ntmps13
  by_cases hne : n1 = n2
  · subst hne
    have hle : zs.length = ys.length := by rw [← HN1.out, HN2.out]
    have hb : ((n1 : Int) != (n1 : Int)) = false := by simp
    go_wp2
    go_loopw [5] (fun i wr => ∃ j : Nat, j ≤ n1 ∧ i = .int .i64 (j : Int) ∧ Drw w wr ∧ zs.take j = ys.take j) (fun i _ => n1 - (intOf i).toNat)
    case atStart => exact ⟨0, Nat.zero_le _, rfl, Drw.refl _, rfl⟩
    case round =>
      obtain ⟨j, hj, rfl, hd, htk⟩ := hrel
      obtain ⟨nd, rfl⟩ := hd
      have HTK : Hid _ := htk
      clear htk
      by_cases hlt : j < n1
      · have hj1 : j < zs.length := by rw [← HN1.out]; exact hlt
        have hj2 : j < ys.length := by omega
        obtain ⟨b1, o1, rfl, x1⟩ := HR1.out j hj1
        obtain ⟨b2, o2, rfl, x2⟩ := HR2.out j hj2
        obtain ⟨z, hz⟩ : ∃ z, z = zs[j] := ⟨_, rfl⟩
        obtain ⟨y, hy⟩ : ∃ y, y = ys[j] := ⟨_, rfl⟩
        rw [← hz] at x1
        rw [← hy] at x2
        have HZ : Hid _ := hz
        have HY : Hid _ := hy
        clear hz hy
        go_wp2
        go_quiet (fail)
        by_cases he : z = y
        · subst he
          have hb2 : (z != z) = false := by simp
          go_wp2
          go_roundw
          case rel =>
            refine ⟨j + 1, hlt, by go_num, ⟨_, rfl⟩, ?_⟩
            rw [List.take_succ_eq_append_getElem hj1, List.take_succ_eq_append_getElem hj2, HTK.out, ← HZ.out, HY.out]
          case measure => simp [intOf]; omega
        · have hb2 : (z != y) = true := by simp [he]
          have hnot : ¬ zs = ys := fun e => he (by rw [HZ.out, HY.out]; subst e; rfl)
          obtain rfl : B = false := by rw [HB.out]; simp [hnot]
          clear hnot
          go_wp2
          go_ret
          exact ⟨rfl, nd + nq, by simp⟩
      · have hjn : j = n1 := by omega
        subst hjn
        have heq : zs = ys := by
          have h9 := HTK.out
          rw [List.take_of_length_le (by rw [← HN1.out]; exact Nat.le_refl _), List.take_of_length_le (by rw [← hle, ← HN1.out]; exact Nat.le_refl _)] at h9
          exact h9
        obtain rfl : B = true := by rw [HB.out]; simp [heq]
        clear heq
        go_wp2
        go_ret
        exact ⟨rfl, _, rfl⟩
  · have hb : ((n1 : Int) != (n2 : Int)) = true := by simp; omega
    have hnot : ¬ zs = ys := fun e => hne (by rw [HN1.out, HN2.out, e])
    obtain rfl : B = false := by rw [HB.out]; simp [hnot]
    clear hnot
    go_wp2
    go_ret
    exact ⟨rfl, 0, rfl⟩
end Go.Proofs.YtnfikcegmicooabDoor
