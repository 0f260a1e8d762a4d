import Derived.Test.YtnfikcegmicooabDoorWhR
namespace Go.Proofs.YtnfikcegmicooabDoor
set_option linter.unusedVariables false
set_option linter.unusedSimpArgs false
open Go.RowKit Go.Maps
section
variable {w w' : World} {p m N S : Nat} {L : List Tm} {V : Nat → Nat → Value}
theorem Wt.fewF {F : Nat → Nat → List Tm} {X : Int → Pl} (hr : RepP N (fun t => t ∈ L) F X) (k s : Nat) (hk : k < 8) (hs : s < 64) : (F k s).length ≤ L.length := sub_len (hr.fnd k s hk hs) (fun t ht => ((hr.mem k s t hk hs).1 ht).1)
set_option maxRecDepth 20000 in
set_option maxHeartbeats 1600000 in
theorem now_t (h : Wt w p m N S L V) : Calls Tryd.prog 19 #[.pointer (some ⟨p, 0, none⟩)] w fun e w' => e = .returned (.int .u64 (N : Int)) ∧ w' = w := by
  obtain ⟨F, X, hx, -, -⟩ := h
  have hcM := hx.cM
  have hcN := hx.cN
  go_enter Tryd.func19, Tryd.ntmps19
  go_wp2_with (go_at_call 24; refine Calls.mono (made_t p (some m) _ hcM) ?_; rintro e w' ⟨rfl, hq⟩; have hq := hq.symm; subst hq)
  go_ret
  exact ⟨rfl, rfl⟩
theorem MapW.len {K : List Int} {X : Int → Pl} (h : MapW w m K X) (ty : TypeId) : (Builtin.len_ #[tMp] ty #[.map (some m)]).run Tryd.prog w = .ok (.int .i64 (K.length : Int)) w := by
  obtain ⟨D, h1, h2, -⟩ := h.own
  have := h1.len Tryd.underlying58 ty
  rw [h2] at this
  exact this
theorem wp_lenW {K : List Int} {X : Int → Pl} {ops : Array Oper} {rest : List Oper} {o : Oper} {a : Act} {Q : Exit → Act → World → Prop} (hgd : o.guard = none) (mo : Operand) (ho : o.op = .call { callee := .builtin .len, args := #[mo], argTypes := #[tMp] })
    (hm : a.eval mo = .map (some m)) (h : MapW w m K X) (hK : wpList Tryd.prog ops Q rest (a.put o.dst (.int .i64 (K.length : Int))) w) : wpList Tryd.prog ops Q (o :: rest) a w := by
  refine wpList_plain hgd fun K' hK' => ?_
  have hr := h.len o.type
  unfold Oper.wp
  simp [execOp, ho, resolve, invoke, builtin, hm, hr, Result.andThen]
  exact hK' _ _ hK
set_option maxRecDepth 20000 in
set_option maxHeartbeats 1600000 in
theorem len_t (h : Wt w p m N S L V) : Calls Tryd.prog 22 #[.pointer (some ⟨p, 0, none⟩)] w fun e w' => e = .returned (.int .i64 (L.length : Int)) ∧ w' = w := by
  obtain ⟨F, X, hx, -, -⟩ := h
  have hcM := hx.cM
  obtain ⟨fl, h1, -⟩ := hx
  have HM : Hid _ := h1.map
  clear h1
  go_enter Tryd.func22, Tryd.ntmps22
  go_wp2_with (first | (go_at_call 24; refine Calls.mono (made_t p (some m) _ hcM) ?_; rintro e w' ⟨rfl, hq⟩; have hq := hq.symm; subst hq) | (at_len; refine wp_lenW rfl _ rfl rfl HM.out ?_))
  go_ret
  exact ⟨by simp, rfl⟩
/-- a timer set -/
def setL (L : List Tm) (N S : Nat) (id : Int) (at_ : Nat) : List Tm := L.filter (fun t => decide (t.id ≠ id)) ++ [⟨id, max (min at_ mxN) (N + 1), S + 1⟩]
set_option maxRecDepth 20000 in
set_option maxHeartbeats 1600000 in
theorem set_t (h : Wt w p m N S L V) (id : Int) (x : Nat) (hid : inI id) (hL : L.length ≤ 4398046511104) (hS : S < 18446744073709551615) :
    Calls Tryd.prog 20 #[.pointer (some ⟨p, 0, none⟩), .int .i64 id, .int .u64 (x : Int)] w fun e w' => e = .returned (.int .i64 0) ∧ ∃ V', Wt w' p m N (S + 1) (setL L N S id x) V' ∧ Stp w w' p m V V' := by
  have hcM : w.cell? ⟨p, 522, none⟩ = some (.map (some m)) := by obtain ⟨F, X, hx, -, -⟩ := h; exact hx.cM
  have hNm : N ≤ 281474976710655 := by obtain ⟨F, X, -, -, ho⟩ := h; exact ho.nN
  obtain ⟨A, hA⟩ : ∃ A, A = max (min x mxN) (N + 1) := ⟨_, rfl⟩
  have HPUT : Hid (∀ (u : World) (V1 : Nat → Nat → Value) (z : Int), z = (A : Int) → (∃ F X, Wx u p m N (S + 1) F ((L.filter (fun t => decide (t.id ≠ id))).map Tm.id) X V1 ∧ RepP N (fun t => t ∈ L.filter (fun t => decide (t.id ≠ id))) F X ∧ Ord N S (L.filter (fun t => decide (t.id ≠ id)))) →
      Calls Tryd.prog 36 #[.pointer (some ⟨p, 0, none⟩), .agg #[.int .i64 id, .int .u64 z, .int .u64 ((S : Int) + 1)]] u fun e w' => e = .returned (.tuple #[]) ∧ ∃ V', Wt w' p m N (S + 1) (setL L N S id x) V' ∧ Stp u w' p m V1 V') := fun u V1 z hz hu => by
    subst hz
    obtain ⟨F, X, hx, hr, ho⟩ := hu
    have hni : ∀ t, t ∈ L.filter (fun t => decide (t.id ≠ id)) → t.id ≠ id := fun t ht => by simpa using (List.mem_filter.1 ht).2
    have hlen : (L.filter (fun t => decide (t.id ≠ id))).length ≤ 4398046511104 := Nat.le_trans (List.length_filter_le _ _) hL
    have hA1 : N < A ∧ (A ≤ mxN ∨ (N = mxN ∧ A = mxN + 1)) := by
      have h9 : mxN = 281474976710655 := rfl
      omega
    have hAm : A ≤ mxN + 1 := by rcases hA1.2 with h9 | h9 <;> omega
    refine Calls.mono (put_w hx ⟨id, A, S + 1⟩ hA1.1 hAm hid (by rw [List.length_map]; exact hlen) (fun k s hk hs => Nat.le_trans (Wt.fewF hr k s hk hs) hlen)) ?_
    rintro e w' ⟨rfl, V', hx', hst'⟩
    have hK : insK ((L.filter (fun t => decide (t.id ≠ id))).map Tm.id) id = (setL L N S id x).map Tm.id := by
      unfold insK setL
      rw [if_neg, List.map_append]
      · rfl
      · intro h9
        obtain ⟨t, ht, e⟩ := List.mem_map.1 h9
        exact hni t ht e
    have hx9 : Wx w' p m N (S + 1) (putF F N ⟨id, A, S + 1⟩) ((setL L N S id x).map Tm.id) (updI X id (putPl F N ⟨id, A, S + 1⟩)) V' := by rw [← hK]; exact hx'
    have hsl : setL L N S id x = L.filter (fun t => decide (t.id ≠ id)) ++ [⟨id, A, S + 1⟩] := by unfold setL; rw [hA]
    refine ⟨rfl, V', ⟨_, _, hx9, (RepP.put hr ⟨id, A, S + 1⟩ (fun u hu => hni u hu) (lev_le8 hA1.1 hAm)).congr (fun t => ?_), ?_⟩, hst'⟩
    · rw [hsl]
      simp
    · rw [hsl]
      refine ⟨ho.nN, ?_, ?_, ?_, ?_, ?_⟩
      · rw [List.map_append]
        refine List.nodup_append.2 ⟨ho.nd, by simp, fun a ha b hb e => ?_⟩
        obtain ⟨t, ht, rfl⟩ := List.mem_map.1 ha
        simp at hb
        exact hni t ht (e.trans hb)
      · refine List.pairwise_append.2 ⟨ho.ord, by simp, fun a ha b hb => ?_⟩
        simp at hb
        rw [hb]
        have := ho.le a ha
        show a.ord < S + 1
        omega
      · intro t ht
        rcases List.mem_append.1 ht with h9 | h9
        · have := ho.le t h9; omega
        · simp at h9; rw [h9]; exact Nat.le_refl _
      · intro t ht
        rcases List.mem_append.1 ht with h9 | h9
        · exact ho.rg t h9
        · simp at h9; rw [h9]; exact hid
      · intro t ht
        rcases List.mem_append.1 ht with h9 | h9
        · exact ho.ats t h9
        · simp at h9; rw [h9]; exact hA1
  have HA : Hid _ := hA
  have HW : Hid _ := h
  have HL : Hid _ := hL
  clear h hL hA
  go_enter Tryd.func20, Tryd.ntmps20
  go_wp2_with (first
    | (go_at_call 24; refine Calls.mono (made_t p (some m) _ hcM) ?_; rintro e w' ⟨rfl, hq⟩; have hq := hq.symm; subst hq)
    | (go_at_call 34; refine Calls.mono (stop_t HW.out id hid HL.out) ?_; rintro e w2 ⟨rfl, V2, hw2, hst2⟩; have HST2 : Hid _ := hst2; obtain ⟨F2, X2, hx2, hr2, ho2⟩ := hw2; have hcS := hx2.cS; have hcN := hx2.cN; have hfS : w2.frozen? ⟨p, 1, none⟩ = false := (by obtain ⟨fl, h1, -⟩ := hx2; exact h1.fz _); have HX2 : Hid _ := hx2; have HR2 : Hid _ := And.intro hr2 ho2; clear hst2 hx2 hr2 ho2))
  obtain ⟨w3, hw3⟩ : ∃ w3, w3 = w2.setCell ⟨p, 1, none⟩ (.int .u64 ((S : Int) + 1)) := ⟨_, rfl⟩
  have hx3 : Wx w3 p m N (S + 1) F2 ((L.filter (fun t => decide (t.id ≠ id))).map Tm.id) X2 V2 := by
    obtain ⟨fl, h1, h2⟩ := HX2.out
    have h9 := h1.stS (S + 1)
    rw [hw3]
    exact ⟨fl, by simpa using h9, h2⟩
  have hst3 : Stp w w3 p m V V2 := by rw [hw3]; exact HST2.out.set _ _
  rw [← hw3]
  have hS3 : w3.cell? ⟨p, 0, none⟩ = some (.int .u64 (N : Int)) ∧ w3.cell? ⟨p, 1, none⟩ = some (.int .u64 ((S : Int) + 1)) := ⟨hx3.cN, by have := hx3.cS; simpa using this⟩
  have HX3 : Hid _ := hx3
  have HST3 : Hid _ := hst3
  clear hw3 hx3 hst3 hcS hcN hfS
  refine wp_region_noPanic ?_
  refine wp_region_held_drew (S := (fun u => u.cell? ⟨p, 0, none⟩ = some (.int .u64 (N : Int)) ∧ u.cell? ⟨p, 1, none⟩ = some (.int .u64 ((S : Int) + 1)))) (by kernel_rfl) (by first | exact hS3 | exact hS6) (fun hHeld => ?_)
  refine take_at (i := 0) 20 (v := ?_) rfl rfl (by kernel_rfl) (by kernel_rfl) (by kernel_rfl) (fun _ _ _ h => h) (by rfl) ?_ hHeld ?_
  rotate_left
  · (intro w hSw; (try dsimp only at hSw); go_simp; try with_reducible rfl)
  simp only [Act.put, List.setIfInBounds_toArray, List.set_cons_zero, List.set_cons_succ]
  refine take_at (i := 1) 21 (v := ?_) rfl rfl (by kernel_rfl) (by kernel_rfl) (by kernel_rfl) (fun _ _ _ h => h) (by rfl) ?_ hHeld ?_
  rotate_left
  · (intro w hSw; (try dsimp only at hSw); go_simp; try with_reducible rfl)
  simp only [Act.put, List.setIfInBounds_toArray, List.set_cons_zero, List.set_cons_succ]
  refine take_at (i := 2) 22 (v := ?_) rfl rfl (by kernel_rfl) (by kernel_rfl) (by kernel_rfl) (fun _ _ _ h => h) (by rfl) ?_ hHeld ?_
  rotate_left
  · (intro w hSw; (try dsimp only at hSw); go_simp; try with_reducible rfl)
  simp only [Act.put, List.setIfInBounds_toArray, List.set_cons_zero, List.set_cons_succ]
  refine take_at (i := 4) 24 (v := ?_) rfl rfl (by kernel_rfl) (by kernel_rfl) (by kernel_rfl) (fun _ _ _ h => h) (by rfl) ?_ hHeld ?_
  rotate_left
  · (intro w hSw; (try dsimp only at hSw); go_simp; try with_reducible rfl)
  simp only [Act.put, List.setIfInBounds_toArray, List.set_cons_zero, List.set_cons_succ]
  refine take_at (i := 5) 25 (v := ?_) rfl rfl (by kernel_rfl) (by kernel_rfl) (by kernel_rfl) (fun _ _ _ h => h) (by rfl) ?_ hHeld ?_
  rotate_left
  · (intro w hSw; (try dsimp only at hSw); go_simp; try with_reducible rfl)
  simp only [Act.put, List.setIfInBounds_toArray, List.set_cons_zero, List.set_cons_succ]
  refine take_at (i := 6) 26 (v := ?_) rfl rfl (by kernel_rfl) (by kernel_rfl) (by kernel_rfl) (fun _ _ _ h => h) (by rfl) ?_ hHeld ?_
  rotate_left
  · (intro w hSw; (try dsimp only at hSw); go_simp; try with_reducible rfl)
  simp only [Act.put, List.setIfInBounds_toArray, List.set_cons_zero, List.set_cons_succ]
  refine take_at (i := 7) 27 (v := ?_) rfl rfl (by kernel_rfl) (by kernel_rfl) (by kernel_rfl) (fun _ _ _ h => h) (by rfl) ?_ hHeld ?_
  rotate_left
  · (intro w hSw; (try dsimp only at hSw); go_simp; try with_reducible rfl)
  simp only [Act.put, List.setIfInBounds_toArray, List.set_cons_zero, List.set_cons_succ]
  refine take_at (i := 8) 28 (v := ?_) rfl rfl (by kernel_rfl) (by kernel_rfl) (by kernel_rfl) (fun _ _ _ h => h) (by rfl) ?_ hHeld ?_
  rotate_left
  · (intro w hSw; (try dsimp only at hSw); go_simp; try with_reducible rfl)
  simp only [Act.put, List.setIfInBounds_toArray, List.set_cons_zero, List.set_cons_succ]
  refine take_at (i := 10) 30 (v := ?_) rfl rfl (by kernel_rfl) (by kernel_rfl) (by kernel_rfl) (fun _ _ _ h => h) (by rfl) ?_ hHeld ?_
  rotate_left
  · (intro w hSw; (try dsimp only at hSw); go_simp; try with_reducible rfl)
  simp only [Act.put, List.setIfInBounds_toArray, List.set_cons_zero, List.set_cons_succ]
  refine take_at (i := 11) 31 (v := ?_) rfl rfl (by kernel_rfl) (by kernel_rfl) (by kernel_rfl) (fun _ _ _ h => h) (by rfl) ?_ hHeld ?_
  rotate_left
  · (intro w hSw; (try dsimp only at hSw); go_simp; try with_reducible rfl)
  simp only [Act.put, List.setIfInBounds_toArray, List.set_cons_zero, List.set_cons_succ]
  refine take_at (i := 12) 32 (v := ?_) rfl rfl (by kernel_rfl) (by kernel_rfl) (by kernel_rfl) (fun _ _ _ h => h) (by rfl) ?_ hHeld ?_
  rotate_left
  · (intro w hSw; (try dsimp only at hSw); go_simp; try with_reducible rfl)
  simp only [Act.put, List.setIfInBounds_toArray, List.set_cons_zero, List.set_cons_succ]
  refine take_at (i := 13) 33 (v := ?_) rfl rfl (by kernel_rfl) (by kernel_rfl) (by kernel_rfl) (fun _ _ _ h => h) (by rfl) ?_ hHeld ?_
  rotate_left
  · (intro w hSw; (try dsimp only at hSw); go_simp; try with_reducible rfl)
  simp only [Act.put, List.setIfInBounds_toArray, List.set_cons_zero, List.set_cons_succ]
  refine run_at (i := 3) rfl (by kernel_rfl) (by rfl) (fun K hK => ?_)
  simp only [List.getElem_toArray, List.getElem_cons_zero, List.getElem_cons_succ]
  go_simp
  first | (go_at_call 23; refine Calls.mono (time_t x _) ?_; rintro e u4 ⟨rfl, hq4⟩; have hq4 := hq4.symm; subst hq4) | (go_at_call 36; refine Calls.mono (HPUT.out _ V2 _ (by rw [HA.out, IntKind.wrap_u64]; have h9 : mxN = 281474976710655 := rfl; omega) ⟨F2, X2, Wx.below HX3.out (Below.refl _ _).drew, HR2.out.1, HR2.out.2⟩) ?_; rintro e w6 ⟨rfl, V6, hw6, hst6⟩; have hS6 : w6.cell? ⟨p, 0, none⟩ = some (.int .u64 (N : Int)) ∧ w6.cell? ⟨p, 1, none⟩ = some (.int .u64 ((S : Int) + 1)) := (by obtain ⟨F6, X6, hx6, -, -⟩ := hw6; exact ⟨hx6.cN, by have := hx6.cS; simpa using this⟩))
  go_wp2_with fail
  refine hK.out _ _ (by first | exact hS3 | exact hS6) ?_
  clear hK K
  intro hHeld2
  clear hHeld
  have hHeld := hHeld2
  clear hHeld2
  try simp only [Act.put, List.setIfInBounds_toArray, List.set_cons_zero, List.set_cons_succ]
  refine run_at (i := 9) rfl (by kernel_rfl) (by rfl) (fun K hK => ?_)
  simp only [List.getElem_toArray, List.getElem_cons_zero, List.getElem_cons_succ]
  go_simp
  go_wp2_with fail
  refine hK.out _ _ (by first | exact hS3 | exact hS6) ?_
  clear hK K
  intro hHeld2
  clear hHeld
  have hHeld := hHeld2
  clear hHeld2
  try simp only [Act.put, List.setIfInBounds_toArray, List.set_cons_zero, List.set_cons_succ]
  refine take_at (i := 14) 34 (v := ?_) rfl rfl (by kernel_rfl) (by kernel_rfl) (by kernel_rfl) (fun _ _ _ h => h) (by rfl) ?_ hHeld ?_
  rotate_left
  · (intro w hSw; (try dsimp only at hSw); go_simp; try with_reducible rfl)
  simp only [Act.put, List.setIfInBounds_toArray, List.set_cons_zero, List.set_cons_succ]
  refine run_at (i := 15) rfl (by kernel_rfl) (by rfl) (fun K hK => ?_)
  simp only [List.getElem_toArray, List.getElem_cons_zero, List.getElem_cons_succ]
  go_simp
  first | (go_at_call 23; refine Calls.mono (time_t x _) ?_; rintro e u4 ⟨rfl, hq4⟩; have hq4 := hq4.symm; subst hq4) | (go_at_call 36; refine Calls.mono (HPUT.out _ V2 _ (by rw [HA.out, IntKind.wrap_u64]; have h9 : mxN = 281474976710655 := rfl; omega) ⟨F2, X2, Wx.below HX3.out (Below.refl _ _).drew, HR2.out.1, HR2.out.2⟩) ?_; rintro e w6 ⟨rfl, V6, hw6, hst6⟩; have hS6 : w6.cell? ⟨p, 0, none⟩ = some (.int .u64 (N : Int)) ∧ w6.cell? ⟨p, 1, none⟩ = some (.int .u64 ((S : Int) + 1)) := (by obtain ⟨F6, X6, hx6, -, -⟩ := hw6; exact ⟨hx6.cN, by have := hx6.cS; simpa using this⟩))
  go_wp2_with fail
  refine hK.out _ _ (by first | exact hS3 | exact hS6) ?_
  clear hK K
  intro hHeld2
  clear hHeld
  have hHeld := hHeld2
  clear hHeld2
  try simp only [Act.put, List.setIfInBounds_toArray, List.set_cons_zero, List.set_cons_succ]
  refine wpAnyH_done (by kernel_rfl) ?_ _
  refine NoPanic.normal ?_
  go_wp2
  go_ret
  exact ⟨rfl, V6, hw6, (HST3.out.trans (Stp.below (Below.refl _ _).drew _ _ _)).trans hst6⟩
end
end Go.Proofs.YtnfikcegmicooabDoor
