import Derived.Test.YtnfikcegmicooabDoorRfB
namespace Go.Proofs.YtnfikcegmicooabDoor
set_option linter.unusedVariables false
set_option linter.unusedSimpArgs false
open Go.RowKit Go.Maps
theorem filt_none {L : List Tm} {id : Int} (h : ∀ t, t ∈ L → t.id ≠ id) : L.filter (fun t => decide (t.id ≠ id)) = L := by
  rw [List.filter_eq_self]
  intro t ht
  simp only [decide_eq_true_eq]
  exact h t ht
theorem filt_at {L : List Tm} {id : Int} {j : Nat} (hj : j < L.length) (hn : (L.map Tm.id).Nodup) (he : L[j].id = id) (hb : ∀ t, t ∈ L.take j → t.id ≠ id) : L.take j ++ L.drop (j + 1) = L.filter (fun t => decide (t.id ≠ id)) := by
  have h1 : L = L.take j ++ L[j] :: L.drop (j + 1) := by rw [List.getElem_cons_drop, List.take_append_drop]
  have h2 : ∀ t, t ∈ L.drop (j + 1) → t.id ≠ id := by
    intro t ht e
    rw [h1, List.map_append, List.map_cons] at hn
    have h3 := (List.nodup_append.1 hn).2.1
    have h4 := (List.nodup_cons.1 h3).1
    exact h4 (List.mem_map.2 ⟨t, ht, by rw [e, he]⟩)
  conv => rhs; rw [h1]
  rw [List.filter_append, List.filter_cons_of_neg (by simp [he]), filt_none hb, filt_none h2]
section
variable {w w' : World} {q N : Nat} {L : List Tm} {v : Value}
set_option maxRecDepth 20000 in
set_option maxHeartbeats 3200000 in
theorem rstop_t (h : RfW w q N L v) (id : Int) (hn : (L.map Tm.id).Nodup) (hL : L.length ≤ 4398046511104) :
    Calls Tryd.prog 32 #[.pointer (some ⟨q, 0, none⟩), .int .i64 id] w fun e w' => e = .returned (.bool (decide (id ∈ L.map Tm.id))) ∧ ∃ v', RfW w' q N (L.filter (fun t => decide (t.id ≠ id))) v' ∧ RSt w w' q v v' ∧ w.grownBy w' (some q) := by
  obtain ⟨a, c, hv, hc, hnil, hrd⟩ := h.row.val
  obtain ⟨n, hnl⟩ : ∃ n, n = L.length := ⟨_, rfl⟩
  rw [← hnl] at hv
  subst hv
  have hqv := h.c1
  have hfz := h.fz 1
  have hql := h.lt (.inl rfl)
  rw [← hnl] at hL hc
  have HN : Hid _ := hnl
  have HR : Hid _ := h.row
  have HW : Hid _ := h
  have HRD : Hid _ := hrd
  have HND : Hid _ := hn
  have HNL : Hid _ := hnil
  clear h hnl hrd hn hnil
  obtain ⟨L', hL'⟩ : ∃ L', L' = L.filter (fun t => decide (t.id ≠ id)) := ⟨_, rfl⟩
  rw [← hL']
  have HF' : Hid _ := hL'
  clear hL'
  obtain ⟨B, hB⟩ : ∃ B, B = decide (id ∈ L.map Tm.id) := ⟨_, rfl⟩
  rw [← hB]
  have HB : Hid _ := hB
  clear hB
  go_enter Tryd.func32, Tryd.ntmps32
  go_wp2
  go_loop [5] (fun i => ∃ j : Nat, j ≤ n ∧ i = .int .i64 (j : Int) ∧ ∀ t, t ∈ L.take j → t.id ≠ id) (fun i => n - (intOf i).toNat)
  case atStart => exact ⟨0, Nat.zero_le _, rfl, fun t ht => by simp at ht⟩
  case round =>
    obtain ⟨j, hj, rfl, hbe⟩ := hrel
    have HBE : Hid _ := hbe
    clear hbe
    by_cases hlt : j < n
    · have hj1 : j < L.length := by rw [← HN.out]; exact hlt
      obtain ⟨g, cc, hv⟩ := OwnQ.one (xs := L) HR.out (fun e => by rw [e] at hj1; cases hj1)
      obtain ⟨rfl, -, rfl⟩ := Value.slice.inj hv
      obtain ⟨c0, c1, c2⟩ := OwnQ.cells3 (xs := L) HR.out HN.out j hj1
      obtain ⟨t, hT⟩ : ∃ t, t = L[j] := ⟨_, rfl⟩
      rw [← hT] at c0 c1 c2
      have hgl := OwnQ.lt (xs := L) HR.out
      have HT : Hid _ := hT
      clear hv hT
      by_cases he : t.id = id
      · have heb : (t.id == id) = true := by simp [he]
        have hjc : j ≤ c := by omega
        obtain ⟨j1, hj1e⟩ : ∃ j1, j1 = j + 1 := ⟨_, rfl⟩
        have hj1i : (j : Int) + 1 = (j1 : Int) := by omega
        have hj1n : j1 ≤ n := by omega
        have HTL : Hid (j = (L.take j).length) := (show _ = _ by rw [List.length_take]; omega)
        have HDL : Hid (n - j1 = (L.drop j1).length) := (show _ = _ by rw [List.length_drop, HN.out])
        have hbd1 : ([] : List Tm).length + j ≤ 4398046511104 := by simp; omega
        have hbd2 : (L.take j).length + (n - j1) ≤ 4398046511104 := by rw [List.length_take]; omega
        have hBt : B = true := by rw [HB.out]; simp only [decide_eq_true_eq]; exact List.mem_map.2 ⟨L[j], List.getElem_mem _, by rw [← HT.out]; exact he⟩
        subst hBt
        have HJ : Hid _ := hj1e
        clear hj1e
        have HFX : Hid (L' = L.take j ++ L.drop j1) := by
          unfold Hid
          rw [HF'.out, HJ.out]
          exact (filt_at hj1 HND.out (by rw [← HT.out]; exact he) HBE.out).symm
        by_cases hci : c = j1
        · have hMi : n = j1 := by omega
          have HMZ : Hid (L.drop n = []) := (show _ = _ by apply List.drop_eq_nil_of_le; have := HN.out; omega)
          subst hMi
          subst hci
          have hbd3 : (L.take j).length + 0 ≤ 4398046511104 := by omega
          go_wp2_with (first
            | (at_builtin; refine wp_appQ rfl _ _ rfl w.heap.size v6 (L.take j) (L.drop c) _ _ _ (by rw [HMZ.out]; rfl) rfl HO6.out rfl (by rw [HMZ.out]; exact fun j9 h9 => absurd h9 (Nat.not_lt_zero _)) (fun h => by cases h) hbd3 HB6.out.size ?_; intro v7 w7 hown7 hg7; obtain ⟨a7, c7, hv7, -⟩ := hown7.val; obtain ⟨n7, hn7⟩ : ∃ n7, n7 = (L.take j ++ L.drop c).length := ⟨_, rfl⟩; rw [← hn7] at hv7; subst hv7; have HN7 : Hid _ := hn7; clear hn7; have hb7 : Below w.heap.size w w7 := HB6.out.grown hg7 HB6.out.size (fun b e => (World.ownsRow.lt HO6.out b e).1); have hq7 : w7.cell? ⟨q, 1, none⟩ = some (.slice (some ⟨g, 0, none⟩) c c) := (hb7.cell (p := ⟨q, 1, none⟩) hql).trans hqv; have hf7 : w7.frozen? ⟨q, 1, none⟩ = false := (hb7.frozen (p := ⟨q, 1, none⟩) hql).trans hfz; have HO7 : Hid _ := hown7; have HB7 : Hid _ := hb7; clear hown7 hg7 hb7)
            | (at_builtin; refine wp_appQ rfl _ _ rfl w.heap.size (.slice none 0 0) [] (L.take j) j (some ⟨g, 0, none⟩) _ HTL.out rfl (World.ownsRow_nil _ _ _ _) rfl (RdQ.take HRD.out j) (fun h => by cases h) hbd1 (Nat.le_refl _) ?_; intro v6 w6 hown6 hg6; rw [List.nil_append] at hown6; have hb6 : Below w.heap.size w w6 := (Below.refl _ _).grown hg6 (Nat.le_refl _) (fun b e => by cases e); have hq6 : w6.cell? ⟨q, 1, none⟩ = some (.slice (some ⟨g, 0, none⟩) c c) := (hb6.cell (p := ⟨q, 1, none⟩) hql).trans hqv; have hf6 : w6.frozen? ⟨q, 1, none⟩ = false := (hb6.frozen (p := ⟨q, 1, none⟩) hql).trans hfz; have HO6 : Hid _ := hown6; have HB6 : Hid _ := hb6; clear hown6 hg6 hb6))
          go_ret
          have hrow : OwnQ w7 w.heap.size (.slice a7 n7 c7) L' := by rw [HFX.out]; exact HO7.out
          refine ⟨rfl, _, RfW.setV HW.out (HB7.out.block q hql) (hrow.base (Nat.zero_le _)), ⟨?_, fun b hb => .inr (World.ownsRow.lt hrow b hb).1⟩, ?_⟩
          · exact (Chg.of_below HB7.out).trans (G := fun b => b = q) (Chg.of_grown (gset1 _ q 1 _) (fun b e => (Option.some.inj e).symm)) (fun b e => .inl (.inl e))
          · exact ⟨HB7.out.os, HB7.out.tape, HB7.out.output, by have := HB7.out.size; simpa using this, fun b hb hne => ((gset1 w7 q 1 _).block b (Nat.lt_of_lt_of_le hb HB7.out.size) hne).trans (HB7.out.block b hb)⟩
        · go_wp2_with (first
            | (at_builtin; refine wp_appQ rfl _ _ rfl w.heap.size v6 (L.take j) (L.drop j1) _ _ _ HDL.out rfl HO6.out rfl (by have h9 := RdQ.drop (RdQ.below HRD.out HB6.out) j1; rw [Nat.zero_add] at h9; exact h9) (fun h => by cases h) hbd2 HB6.out.size ?_; intro v7 w7 hown7 hg7; obtain ⟨a7, c7, hv7, -⟩ := hown7.val; obtain ⟨n7, hn7⟩ : ∃ n7, n7 = (L.take j ++ L.drop j1).length := ⟨_, rfl⟩; rw [← hn7] at hv7; subst hv7; have HN7 : Hid _ := hn7; clear hn7; have hb7 : Below w.heap.size w w7 := HB6.out.grown hg7 HB6.out.size (fun b e => (World.ownsRow.lt HO6.out b e).1); have hq7 : w7.cell? ⟨q, 1, none⟩ = some (.slice (some ⟨g, 0, none⟩) n c) := (hb7.cell (p := ⟨q, 1, none⟩) hql).trans hqv; have hf7 : w7.frozen? ⟨q, 1, none⟩ = false := (hb7.frozen (p := ⟨q, 1, none⟩) hql).trans hfz; have HO7 : Hid _ := hown7; have HB7 : Hid _ := hb7; clear hown7 hg7 hb7)
            | (at_builtin; refine wp_appQ rfl _ _ rfl w.heap.size (.slice none 0 0) [] (L.take j) j (some ⟨g, 0, none⟩) _ HTL.out rfl (World.ownsRow_nil _ _ _ _) rfl (RdQ.take HRD.out j) (fun h => by cases h) hbd1 (Nat.le_refl _) ?_; intro v6 w6 hown6 hg6; rw [List.nil_append] at hown6; have hb6 : Below w.heap.size w w6 := (Below.refl _ _).grown hg6 (Nat.le_refl _) (fun b e => by cases e); have hq6 : w6.cell? ⟨q, 1, none⟩ = some (.slice (some ⟨g, 0, none⟩) n c) := (hb6.cell (p := ⟨q, 1, none⟩) hql).trans hqv; have hf6 : w6.frozen? ⟨q, 1, none⟩ = false := (hb6.frozen (p := ⟨q, 1, none⟩) hql).trans hfz; have HO6 : Hid _ := hown6; have HB6 : Hid _ := hb6; clear hown6 hg6 hb6))
          go_ret
          have hrow : OwnQ w7 w.heap.size (.slice a7 n7 c7) L' := by rw [HFX.out]; exact HO7.out
          refine ⟨rfl, _, RfW.setV HW.out (HB7.out.block q hql) (hrow.base (Nat.zero_le _)), ⟨?_, fun b hb => .inr (World.ownsRow.lt hrow b hb).1⟩, ?_⟩
          · exact (Chg.of_below HB7.out).trans (G := fun b => b = q) (Chg.of_grown (gset1 _ q 1 _) (fun b e => (Option.some.inj e).symm)) (fun b e => .inl (.inl e))
          · exact ⟨HB7.out.os, HB7.out.tape, HB7.out.output, by have := HB7.out.size; simpa using this, fun b hb hne => ((gset1 w7 q 1 _).block b (Nat.lt_of_lt_of_le hb HB7.out.size) hne).trans (HB7.out.block b hb)⟩
      · have heb : (t.id == id) = false := by simp [he]
        go_wp2
        go_round
        case rel =>
          refine ⟨j + 1, hlt, by go_num, fun u hu => ?_⟩
          rw [List.take_succ_eq_append_getElem hj1, List.mem_append] at hu
          rcases hu with h9 | h9
          · exact HBE.out u h9
          · simp at h9; rw [h9, ← HT.out]; exact he
        case measure => simp [intOf]; omega
    · have hjn : j = n := by omega
      subst hjn
      have hall : ∀ t, t ∈ L → t.id ≠ id := fun t ht => HBE.out t (by rw [HN.out, List.take_length]; exact ht)
      have hBf : B = false := by
        rw [HB.out]
        simp only [decide_eq_false_iff_not]
        intro h9
        obtain ⟨t, ht, e⟩ := List.mem_map.1 h9
        exact hall t ht e
      subst hBf
      have HF : Hid (L' = L) := HF'.out.trans (filt_none hall)
      clear hall
      go_wp2
      go_ret
      rw [HF.out]
      exact ⟨rfl, _, HW.out, RSt.below (Below.refl _ _) _ _, ⟨rfl, rfl, rfl, Nat.le_refl _, fun _ _ _ => rfl⟩⟩
end
end Go.Proofs.YtnfikcegmicooabDoor
