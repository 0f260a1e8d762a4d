import Derived.Test.YtnpcgegcoakbmaaDoorEE
namespace Go.Proofs.YtnpcgegcoakbmaaDoor
set_option linter.unusedVariables false
set_option linter.unusedSimpArgs false
open Go.RowKit
def putE (R : Nat) (L : List Dgm) (xs : List UInt8) : Int := if 2048 < xs.length then 81 else if L.length = R then 2 else 0
def putL (R : Nat) (L : List Dgm) (xs : List UInt8) : List Dgm := if 2048 < xs.length then L else if L.length = R then L else L ++ [⟨xs, false⟩]
def dropL (L : List Dgm) (i : Int) : List Dgm := if 0 ≤ i ∧ i < (L.length : Int) then L.eraseIdx i.toNat else L
def dblE (R : Nat) (L : List Dgm) (i : Int) : Int := if 0 ≤ i ∧ i < (L.length : Int) then (if L.length = R then 2 else 0) else 4
def dblL (R : Nat) (L : List Dgm) (i : Int) : List Dgm := if 0 ≤ i ∧ i < (L.length : Int) then (if L.length = R then L else L ++ (L[i.toNat]?).toList) else L
def trnE (L : List Dgm) (i at_ : Int) (m : Nat) : Int := if 0 ≤ i ∧ i < (L.length : Int) then (match L[i.toNat]? with | some d => if wOk d.xs.length at_ m then (if d.tn then 3 else 0) else 1 | none => 4) else 4
def trnL (L : List Dgm) (i at_ : Int) (m : Nat) : List Dgm := if 0 ≤ i ∧ i < (L.length : Int) then (match L[i.toNat]? with | some d => if wOk d.xs.length at_ m then (if d.tn then L else L.set i.toNat ⟨bst at_ m d.xs 32, true⟩) else L | none => L) else L
section
variable {S : Sd} {w w' : World} {p R : Nat} {v : Value} {E : List Dc} {L : List Dgm}
/-- what was there is there behind it -/
theorem Wy.elsk (h : Wy S w p R v E L) (hc : Chg (fun b => v.ownBlock = some b) w w') (i : Nat) (e : Dc) (d : Dgm) (he : E[i]? = some e) (hd : L[i]? = some d) : e.tn = d.tn ∧ ByV w' e d.xs ∧ d.xs.length ≤ 2048 := by
  obtain ⟨h1, h2, h3⟩ := h.els i e d he hd
  exact ⟨h1, h.elk (hc.mono (fun b hb => .inr hb)) h2, h3⟩
/-- one more at the end -/
theorem Wy.elsPush (h : Wy S w p R v E L) (hc : Chg (fun b => v.ownBlock = some b) w w') {e1 : Dc} {d1 : Dgm} (h1 : e1.tn = d1.tn ∧ ByV w' e1 d1.xs ∧ d1.xs.length ≤ 2048) : ∀ (i : Nat) e d, (E ++ [e1])[i]? = some e → (L ++ [d1])[i]? = some d → e.tn = d.tn ∧ ByV w' e d.xs ∧ d.xs.length ≤ 2048 := fun i e d he hd => by
  rw [List.getElem?_append] at he hd
  rw [h.len] at he
  by_cases hi : i < L.length
  · rw [if_pos hi] at he hd
    exact h.elsk hc i e d he hd
  · rw [if_neg hi] at he hd
    have h0 : i - L.length = 0 := by
      have := (List.getElem?_eq_some_iff.1 hd).1
      simp at this
      exact this
    rw [h0] at he hd
    simp at he hd
    subst he hd
    exact h1
theorem Wy.elsErase (h : Wy S w p R v E L) (hc : Chg (fun b => v.ownBlock = some b) w w') (k : Nat) : ∀ (i : Nat) e d, (E.eraseIdx k)[i]? = some e → (L.eraseIdx k)[i]? = some d → e.tn = d.tn ∧ ByV w' e d.xs ∧ d.xs.length ≤ 2048 := fun i e d he hd => by
  rw [List.getElem?_eraseIdx] at he hd
  by_cases hi : i < k
  · rw [if_pos hi] at he hd
    exact h.elsk hc i e d he hd
  · rw [if_neg hi] at he hd
    exact h.elsk hc (i + 1) e d he hd
theorem Wy.elsSet (h : Wy S w p R v E L) (hc : Chg (fun b => v.ownBlock = some b) w w') (k : Nat) {e1 : Dc} {d1 : Dgm} (h1 : e1.tn = d1.tn ∧ ByV w' e1 d1.xs ∧ d1.xs.length ≤ 2048) : ∀ (i : Nat) e d, (E.set k e1)[i]? = some e → (L.set k d1)[i]? = some d → e.tn = d.tn ∧ ByV w' e d.xs ∧ d.xs.length ≤ 2048 := fun i e d he hd => by
  rw [List.getElem?_set] at he hd
  by_cases hi : k = i
  · rw [if_pos hi] at he hd
    split at he
    · split at hd
      · cases he
        cases hd
        exact h1
      · cases hd
    · cases he
  · rw [if_neg hi] at he hd
    exact h.elsk hc i e d he hd
end
section
variable {w w' : World} {p R : Nat} {v : Value} {E : List Dc} {L : List Dgm}
set_option maxRecDepth 20000 in
set_option maxHeartbeats 3200000 in
theorem put_t (h : Wy SP w p R v E L) (ao : Option Addr) (n cap : Nat) (xs : List UInt8) (hn : n = xs.length) (hx : Rd w ao xs) (hnil : ao = none → cap = 0) (hl : n ≤ 140737488355328) :
    Calls Tryd.prog 10 #[.pointer (some ⟨p, 0, none⟩), .slice ao n cap] w fun e w' => e = .returned (.int .i64 (putE R L xs)) ∧ ∃ v' E', Wy SP w' p R v' E' (putL R L xs) ∧ WSt w w' p v E v' E' := by
  subst hn
  have HM : Hid _ := made_t h
  have HF : Hid _ := full_t h
  have HW : Hid _ := h
  by_cases hs : 2048 < xs.length
  · have HE : Hid (putE R L xs = 81) := by unfold Hid putE; rw [if_pos hs]
    have HL : Hid (putL R L xs = L) := by unfold Hid putL; rw [if_pos hs]
    have hsI : (2048 : Int) < (xs.length : Int) := by omega
    clear h hx hnil
    go_enter Tryd.func10, Tryd.ntmps10
    go_wp2_with (go_at_call 26; refine Calls.mono HM.out ?_; rintro e w' ⟨rfl, hq⟩; have hq := hq.symm; subst hq)
    go_ret
    rw [HE.out, HL.out]
    exact ⟨rfl, v, E, HW.out, WSt.refl _ _ _ _⟩
  · have hsI : ¬ (2048 : Int) < (xs.length : Int) := by omega
    by_cases hr : L.length = R
    · have HE : Hid (putE R L xs = 2) := by unfold Hid putE; rw [if_neg hs, if_pos hr]
      have HL : Hid (putL R L xs = L) := by unfold Hid putL; rw [if_neg hs, if_pos hr]
      have HD : Hid (decide (L.length = R) = true) := decide_eq_true hr
      clear h hx hnil hr
      go_enter Tryd.func10, Tryd.ntmps10
      go_wp2_with (first | (go_at_call 26; refine Calls.mono HM.out ?_; rintro e w' ⟨rfl, hq⟩; have hq := hq.symm; subst hq) | (go_at_call 27; refine Calls.mono HF.out ?_; rintro e w1 ⟨rfl, hb1⟩; rw [HD.out]))
      go_ret
      rw [HE.out, HL.out]
      exact ⟨rfl, v, E, HW.out.below hb1, WSt.below hb1 _ _ _⟩
    · have HE : Hid (putE R L xs = 0) := by unfold Hid putE; rw [if_neg hs, if_neg hr]
      have HL : Hid (putL R L xs = L ++ [⟨xs, false⟩]) := by unfold Hid putL; rw [if_neg hs, if_neg hr]
      have HD : Hid (decide (L.length = R) = false) := decide_eq_false hr
      have HR : Hid (L.length + 1 ≤ R) := by have := h.lr; unfold Hid; omega
      have hLm : L.length ≤ 1024 := by have := h.lr; have := h.r1; omega
      have HX : Hid _ := hx
      have HN : Hid _ := hnil
      clear h hx hnil hr
      go_enter Tryd.func10, Tryd.ntmps10
      go_wp2_with (first | (go_at_call 26; refine Calls.mono HM.out ?_; rintro e w' ⟨rfl, hq⟩; have hq := hq.symm; subst hq) | (go_at_call 27; refine Calls.mono HF.out ?_; rintro e w1 ⟨rfl, hb1⟩; rw [HD.out]))
      have h1 := HW.out.below hb1
      obtain ⟨a1, c1, hv, -, -, -, -⟩ := h1.row.val
      rw [h1.len] at hv
      subst hv
      have HW1 : Hid _ := h1
      have HST1 : Hid _ := WSt.below hb1 p (.slice a1 L.length c1) E
      have HC1 : Hid (∀ u, Below w1.heap.size w1 u → u.cell? ⟨p, 1, none⟩ = some (.slice a1 L.length c1)) := fun u hu => (h1.below hu).c1
      have HRD : Hid (∀ u, Below w1.heap.size w1 u → Rd u ao xs) := fun u hu => Rd.below (Rd.below HX.out hb1) hu
      have HOW : Hid (∀ u, Below w1.heap.size w1 u → OwnG KD u 0 (.slice a1 L.length c1) E) := fun u hu => h1.row.below hu
      have HQ : Hid (∀ u u', Below w1.heap.size w1 u → u.grownBy u' (Value.slice a1 L.length c1).ownBlock → u'.cell? ⟨p, 1, none⟩ = some (.slice a1 L.length c1) ∧ u'.frozen? ⟨p, 1, none⟩ = false) := fun u u' hu hg => by
        have h9 := h1.below hu
        have h8 : u'.heap[p]? = u.heap[p]? := hg.block p (h9.lt (.inl rfl)) (fun e => h9.pv e.symm)
        exact ⟨(World.cell?_of_block h8).trans h9.c1, (World.frozen?_of_block h8).trans (h9.fz 1)⟩
      have HLE : Hid (L.length = E.length) := h1.len.symm
      clear h1 hb1 HM HF
      refine wp_region_noPanic ?_
      refine wp_region_held_drew (S := (fun _ => True)) (by kernel_rfl) (by exact trivial) (fun hHeld => ?_)
      refine take_at (i := 0) 13 (v := ?_) rfl rfl (by kernel_rfl) (by kernel_rfl) (by kernel_rfl) (fun _ _ _ h => h) (by rfl) ?_ hHeld ?_
      rotate_left
      · (intro w hSw; (try dsimp only at hSw); go_simp; try with_reducible rfl)
      simp only [Act.put, List.setIfInBounds_toArray, List.set_cons_zero, List.set_cons_succ]
      refine take_at (i := 1) 14 (v := ?_) rfl rfl (by kernel_rfl) (by kernel_rfl) (by kernel_rfl) (fun _ _ _ h => h) (by rfl) ?_ hHeld ?_
      rotate_left
      · (intro w hSw; (try dsimp only at hSw); go_simp; try with_reducible rfl)
      simp only [Act.put, List.setIfInBounds_toArray, List.set_cons_zero, List.set_cons_succ]
      refine take_at (i := 2) 15 (v := ?_) rfl rfl (by kernel_rfl) (by kernel_rfl) (by kernel_rfl) (fun _ _ _ h => h) (by rfl) ?_ hHeld ?_
      rotate_left
      · (intro w hSw; (try dsimp only at hSw); go_simp; try with_reducible rfl)
      simp only [Act.put, List.setIfInBounds_toArray, List.set_cons_zero, List.set_cons_succ]
      refine take_at (i := 3) 16 (v := ?_) rfl rfl (by kernel_rfl) (by kernel_rfl) (by kernel_rfl) (fun _ _ _ h => h) (by rfl) ?_ hHeld ?_
      rotate_left
      · (intro w hSw; (try dsimp only at hSw); go_simp; try with_reducible rfl)
      simp only [Act.put, List.setIfInBounds_toArray, List.set_cons_zero, List.set_cons_succ]
      refine take_at (i := 5) 18 (v := ?_) rfl rfl (by kernel_rfl) (by kernel_rfl) (by kernel_rfl) (fun _ _ _ h => h) (by rfl) ?_ hHeld ?_
      rotate_left
      · (intro w hSw; (try dsimp only at hSw); go_simp; try with_reducible rfl)
      simp only [Act.put, List.setIfInBounds_toArray, List.set_cons_zero, List.set_cons_succ]
      refine wpAnyH_ready (rs := [4, 6]) (by kernel_rfl) (by simp) ?_
      refine AllReadyH.cons (o := _) rfl (fun K hK => ?_) ?_
      focus
        rw [if_pos (by rfl)]
        refine val_wp 17 (v := .slice a1 L.length c1) rfl ?_ ?_
        · (have hc9 := HC1.out _ ((Below.refl _ _).drew); go_simp; try with_reducible rfl)
        refine hK.out _ _ (by exact trivial) ?_
        clear hK K
        intro hHeld2
        clear hHeld
        have hHeld := hHeld2
        clear hHeld2
        simp only [Act.put, List.setIfInBounds_toArray, List.set_cons_zero, List.set_cons_succ]
        refine run_at (i := 6) rfl (by kernel_rfl) (by rfl) (fun K hK => ?_)
        simp only [List.getElem_toArray, List.getElem_cons_zero, List.getElem_cons_succ]
        go_simp
        first | (go_at_call 25; refine Calls.mono (clone_any ao cap xs _ (HRD.out _ (Below.refl _ _).drew) HN.out hl) ?_; rintro e w2 ⟨u2, rfl, hown2, hb2'⟩; have hb2 : Below w1.heap.size w1 w2 := ⟨hb2'.os, hb2'.tape, hb2'.output, hb2'.size, hb2'.block⟩; clear hb2'; obtain ⟨a2, c2, hu2, -, -, -, -, -⟩ := hown2.val; subst hu2; have HO2 : Hid _ := hown2; have HB2 : Hid _ := hb2; clear hown2 hb2) | (refine wpo_appG1 (K := KD) _ _ rfl 0 (.slice a1 L.length c1) E ⟨false, a2, xs.length, c2⟩ L.length HLE.out ⟨w2.heap.size, 0, none⟩ 1 rfl (HOW.out _ (al HB2.out _)) rfl (rdG_lit (heap_alloc_new _ _) rfl) (by show (L.length + 1) * 32 ≤ _; omega) (by simp only [maxLen]; omega) (Nat.zero_le _) ?_; intro g5 cap5 w5 hown5 hg5 hat5; obtain ⟨hc5, hf5⟩ := HQ.out _ _ (al HB2.out _) hg5; have HO5 : Hid _ := hown5; have HG5 : Hid _ := hg5; have HT5 : Hid _ := hat5; clear hown5 hg5 hat5)
        go_wp2_with fail
        refine hK.out _ _ (by exact trivial) ?_
        clear hK K
        intro hHeld2
        clear hHeld
        have hHeld := hHeld2
        clear hHeld2
        try simp only [Act.put, List.setIfInBounds_toArray, List.set_cons_zero, List.set_cons_succ]
        refine take_at (i := 7) 20 (v := ?_) rfl rfl (by kernel_rfl) (by kernel_rfl) (by kernel_rfl) (fun _ _ _ h => h) (by rfl) ?_ hHeld ?_
        rotate_left
        · (intro w hSw; (try dsimp only at hSw); go_simp; try with_reducible rfl)
        simp only [Act.put, List.setIfInBounds_toArray, List.set_cons_zero, List.set_cons_succ]
        refine run_at (i := 8) rfl (by kernel_rfl) (by rfl) (fun K hK => ?_)
        simp only [List.getElem_toArray, List.getElem_cons_zero, List.getElem_cons_succ]
        go_simp
        go_wp2_with fail
        refine hK.out _ _ (by exact trivial) ?_
        clear hK K
        intro hHeld2
        clear hHeld
        have hHeld := hHeld2
        clear hHeld2
        try simp only [Act.put, List.setIfInBounds_toArray, List.set_cons_zero, List.set_cons_succ]
        refine run_at (i := 9) rfl (by kernel_rfl) (by rfl) (fun K hK => ?_)
        simp only [List.getElem_toArray, List.getElem_cons_zero, List.getElem_cons_succ]
        first | (go_at_call 25; refine Calls.mono (clone_any ao cap xs _ (HRD.out _ (Below.refl _ _).drew) HN.out hl) ?_; rintro e w2 ⟨u2, rfl, hown2, hb2'⟩; have hb2 : Below w1.heap.size w1 w2 := ⟨hb2'.os, hb2'.tape, hb2'.output, hb2'.size, hb2'.block⟩; clear hb2'; obtain ⟨a2, c2, hu2, -, -, -, -, -⟩ := hown2.val; subst hu2; have HO2 : Hid _ := hown2; have HB2 : Hid _ := hb2; clear hown2 hb2) | (refine wpo_appG1 (K := KD) _ _ rfl 0 (.slice a1 L.length c1) E ⟨false, a2, xs.length, c2⟩ L.length HLE.out ⟨w2.heap.size, 0, none⟩ 1 rfl (HOW.out _ (al HB2.out _)) rfl (rdG_lit (heap_alloc_new _ _) rfl) (by show (L.length + 1) * 32 ≤ _; omega) (by simp only [maxLen]; omega) (Nat.zero_le _) ?_; intro g5 cap5 w5 hown5 hg5 hat5; obtain ⟨hc5, hf5⟩ := HQ.out _ _ (al HB2.out _) hg5; have HO5 : Hid _ := hown5; have HG5 : Hid _ := hg5; have HT5 : Hid _ := hat5; clear hown5 hg5 hat5)
        refine hK.out _ _ (by exact trivial) ?_
        clear hK K
        intro hHeld2
        clear hHeld
        have hHeld := hHeld2
        clear hHeld2
        try simp only [Act.put, List.setIfInBounds_toArray, List.set_cons_zero, List.set_cons_succ]
        refine take_at (i := 10) 23 (v := ?_) rfl rfl (by kernel_rfl) (by kernel_rfl) (by kernel_rfl) (fun _ _ _ h => h) (by rfl) ?_ hHeld ?_
        rotate_left
        · (intro w hSw; (try dsimp only at hSw); go_simp; try with_reducible rfl)
        simp only [Act.put, List.setIfInBounds_toArray, List.set_cons_zero, List.set_cons_succ]
        refine take_at (i := 11) 24 (v := ?_) rfl rfl (by kernel_rfl) (by kernel_rfl) (by kernel_rfl) (fun _ _ _ h => h) (by rfl) ?_ hHeld ?_
        rotate_left
        · (intro w hSw; (try dsimp only at hSw); go_simp; try with_reducible rfl)
        simp only [Act.put, List.setIfInBounds_toArray, List.set_cons_zero, List.set_cons_succ]
        refine run_at (i := 12) rfl (by kernel_rfl) (by rfl) (fun K hK => ?_)
        simp only [List.getElem_toArray, List.getElem_cons_zero, List.getElem_cons_succ]
        go_simp
        go_wp2_with fail
        refine hK.out _ _ (by exact trivial) ?_
        clear hK K
        intro hHeld2
        clear hHeld
        have hHeld := hHeld2
        clear hHeld2
        try simp only [Act.put, List.setIfInBounds_toArray, List.set_cons_zero, List.set_cons_succ]
        refine wpAnyH_done (by kernel_rfl) ?_ _
        refine NoPanic.normal ?_
      rotate_left 1
      refine AllReadyH.cons (o := _) rfl (fun K hK => ?_) AllReadyH.nil
      focus
        rw [if_pos (by rfl)]
        simp only [List.getElem_toArray, List.getElem_cons_zero, List.getElem_cons_succ]
        go_simp
        first | (go_at_call 25; refine Calls.mono (clone_any ao cap xs _ (HRD.out _ (Below.refl _ _).drew) HN.out hl) ?_; rintro e w2 ⟨u2, rfl, hown2, hb2'⟩; have hb2 : Below w1.heap.size w1 w2 := ⟨hb2'.os, hb2'.tape, hb2'.output, hb2'.size, hb2'.block⟩; clear hb2'; obtain ⟨a2, c2, hu2, -, -, -, -, -⟩ := hown2.val; subst hu2; have HO2 : Hid _ := hown2; have HB2 : Hid _ := hb2; clear hown2 hb2) | (refine wpo_appG1 (K := KD) _ _ rfl 0 (.slice a1 L.length c1) E ⟨false, a2, xs.length, c2⟩ L.length HLE.out ⟨w2.heap.size, 0, none⟩ 1 rfl (HOW.out _ (al HB2.out _)) rfl (rdG_lit (heap_alloc_new _ _) rfl) (by show (L.length + 1) * 32 ≤ _; omega) (by simp only [maxLen]; omega) (Nat.zero_le _) ?_; intro g5 cap5 w5 hown5 hg5 hat5; obtain ⟨hc5, hf5⟩ := HQ.out _ _ (al HB2.out _) hg5; have HO5 : Hid _ := hown5; have HG5 : Hid _ := hg5; have HT5 : Hid _ := hat5; clear hown5 hg5 hat5)
        go_wp2_with fail
        refine hK.out _ _ (by exact trivial) ?_
        clear hK K
        intro hHeld2
        clear hHeld
        have hHeld := hHeld2
        clear hHeld2
        try simp only [Act.put, List.setIfInBounds_toArray, List.set_cons_zero, List.set_cons_succ]
        refine take_at (i := 7) 20 (v := ?_) rfl rfl (by kernel_rfl) (by kernel_rfl) (by kernel_rfl) (fun _ _ _ h => h) (by rfl) ?_ hHeld ?_
        rotate_left
        · (intro w hSw; (try dsimp only at hSw); go_simp; try with_reducible rfl)
        simp only [Act.put, List.setIfInBounds_toArray, List.set_cons_zero, List.set_cons_succ]
        refine wpAnyH_ready (rs := [4, 8]) (by kernel_rfl) (by simp) ?_
        refine AllReadyH.cons (o := _) rfl (fun K hK => ?_) ?_
        focus
          rw [if_pos (by rfl)]
          refine val_wp 17 (v := .slice a1 L.length c1) rfl ?_ ?_
          · (have hc9 := HC1.out _ (HB2.out); go_simp; try with_reducible rfl)
          refine hK.out _ _ (by exact trivial) ?_
          clear hK K
          intro hHeld2
          clear hHeld
          have hHeld := hHeld2
          clear hHeld2
          simp only [Act.put, List.setIfInBounds_toArray, List.set_cons_zero, List.set_cons_succ]
          refine run_at (i := 8) rfl (by kernel_rfl) (by rfl) (fun K hK => ?_)
          simp only [List.getElem_toArray, List.getElem_cons_zero, List.getElem_cons_succ]
          go_simp
          go_wp2_with fail
          refine hK.out _ _ (by exact trivial) ?_
          clear hK K
          intro hHeld2
          clear hHeld
          have hHeld := hHeld2
          clear hHeld2
          try simp only [Act.put, List.setIfInBounds_toArray, List.set_cons_zero, List.set_cons_succ]
          refine run_at (i := 9) rfl (by kernel_rfl) (by rfl) (fun K hK => ?_)
          simp only [List.getElem_toArray, List.getElem_cons_zero, List.getElem_cons_succ]
          first | (go_at_call 25; refine Calls.mono (clone_any ao cap xs _ (HRD.out _ (Below.refl _ _).drew) HN.out hl) ?_; rintro e w2 ⟨u2, rfl, hown2, hb2'⟩; have hb2 : Below w1.heap.size w1 w2 := ⟨hb2'.os, hb2'.tape, hb2'.output, hb2'.size, hb2'.block⟩; clear hb2'; obtain ⟨a2, c2, hu2, -, -, -, -, -⟩ := hown2.val; subst hu2; have HO2 : Hid _ := hown2; have HB2 : Hid _ := hb2; clear hown2 hb2) | (refine wpo_appG1 (K := KD) _ _ rfl 0 (.slice a1 L.length c1) E ⟨false, a2, xs.length, c2⟩ L.length HLE.out ⟨w2.heap.size, 0, none⟩ 1 rfl (HOW.out _ (al HB2.out _)) rfl (rdG_lit (heap_alloc_new _ _) rfl) (by show (L.length + 1) * 32 ≤ _; omega) (by simp only [maxLen]; omega) (Nat.zero_le _) ?_; intro g5 cap5 w5 hown5 hg5 hat5; obtain ⟨hc5, hf5⟩ := HQ.out _ _ (al HB2.out _) hg5; have HO5 : Hid _ := hown5; have HG5 : Hid _ := hg5; have HT5 : Hid _ := hat5; clear hown5 hg5 hat5)
          refine hK.out _ _ (by exact trivial) ?_
          clear hK K
          intro hHeld2
          clear hHeld
          have hHeld := hHeld2
          clear hHeld2
          try simp only [Act.put, List.setIfInBounds_toArray, List.set_cons_zero, List.set_cons_succ]
          refine take_at (i := 10) 23 (v := ?_) rfl rfl (by kernel_rfl) (by kernel_rfl) (by kernel_rfl) (fun _ _ _ h => h) (by rfl) ?_ hHeld ?_
          rotate_left
          · (intro w hSw; (try dsimp only at hSw); go_simp; try with_reducible rfl)
          simp only [Act.put, List.setIfInBounds_toArray, List.set_cons_zero, List.set_cons_succ]
          refine take_at (i := 11) 24 (v := ?_) rfl rfl (by kernel_rfl) (by kernel_rfl) (by kernel_rfl) (fun _ _ _ h => h) (by rfl) ?_ hHeld ?_
          rotate_left
          · (intro w hSw; (try dsimp only at hSw); go_simp; try with_reducible rfl)
          simp only [Act.put, List.setIfInBounds_toArray, List.set_cons_zero, List.set_cons_succ]
          refine run_at (i := 12) rfl (by kernel_rfl) (by rfl) (fun K hK => ?_)
          simp only [List.getElem_toArray, List.getElem_cons_zero, List.getElem_cons_succ]
          go_simp
          go_wp2_with fail
          refine hK.out _ _ (by exact trivial) ?_
          clear hK K
          intro hHeld2
          clear hHeld
          have hHeld := hHeld2
          clear hHeld2
          try simp only [Act.put, List.setIfInBounds_toArray, List.set_cons_zero, List.set_cons_succ]
          refine wpAnyH_done (by kernel_rfl) ?_ _
          refine NoPanic.normal ?_
        rotate_left 1
        refine AllReadyH.cons (o := _) rfl (fun K hK => ?_) AllReadyH.nil
        focus
          rw [if_pos (by rfl)]
          simp only [List.getElem_toArray, List.getElem_cons_zero, List.getElem_cons_succ]
          go_simp
          go_wp2_with fail
          refine hK.out _ _ (by exact trivial) ?_
          clear hK K
          intro hHeld2
          clear hHeld
          have hHeld := hHeld2
          clear hHeld2
          try simp only [Act.put, List.setIfInBounds_toArray, List.set_cons_zero, List.set_cons_succ]
          refine val_at (i := 4) 17 (v := .slice a1 L.length c1) rfl rfl (by kernel_rfl) (by rfl) ?_ ?_ ?_
          · (have hc9 := HC1.out (w2.alloc (.cells #[.bool false, .slice a2 xs.length c2] tDg)) (al HB2.out _); go_simp; try with_reducible rfl)
          · (exact trivial)
          intro hHeld2
          clear hHeld
          have hHeld := hHeld2
          clear hHeld2
          simp only [Act.put, List.setIfInBounds_toArray, List.set_cons_zero, List.set_cons_succ]
          refine run_at (i := 9) rfl (by kernel_rfl) (by rfl) (fun K hK => ?_)
          simp only [List.getElem_toArray, List.getElem_cons_zero, List.getElem_cons_succ]
          first | (go_at_call 25; refine Calls.mono (clone_any ao cap xs _ (HRD.out _ (Below.refl _ _).drew) HN.out hl) ?_; rintro e w2 ⟨u2, rfl, hown2, hb2'⟩; have hb2 : Below w1.heap.size w1 w2 := ⟨hb2'.os, hb2'.tape, hb2'.output, hb2'.size, hb2'.block⟩; clear hb2'; obtain ⟨a2, c2, hu2, -, -, -, -, -⟩ := hown2.val; subst hu2; have HO2 : Hid _ := hown2; have HB2 : Hid _ := hb2; clear hown2 hb2) | (refine wpo_appG1 (K := KD) _ _ rfl 0 (.slice a1 L.length c1) E ⟨false, a2, xs.length, c2⟩ L.length HLE.out ⟨w2.heap.size, 0, none⟩ 1 rfl (HOW.out _ (al HB2.out _)) rfl (rdG_lit (heap_alloc_new _ _) rfl) (by show (L.length + 1) * 32 ≤ _; omega) (by simp only [maxLen]; omega) (Nat.zero_le _) ?_; intro g5 cap5 w5 hown5 hg5 hat5; obtain ⟨hc5, hf5⟩ := HQ.out _ _ (al HB2.out _) hg5; have HO5 : Hid _ := hown5; have HG5 : Hid _ := hg5; have HT5 : Hid _ := hat5; clear hown5 hg5 hat5)
          refine hK.out _ _ (by exact trivial) ?_
          clear hK K
          intro hHeld2
          clear hHeld
          have hHeld := hHeld2
          clear hHeld2
          try simp only [Act.put, List.setIfInBounds_toArray, List.set_cons_zero, List.set_cons_succ]
          refine take_at (i := 10) 23 (v := ?_) rfl rfl (by kernel_rfl) (by kernel_rfl) (by kernel_rfl) (fun _ _ _ h => h) (by rfl) ?_ hHeld ?_
          rotate_left
          · (intro w hSw; (try dsimp only at hSw); go_simp; try with_reducible rfl)
          simp only [Act.put, List.setIfInBounds_toArray, List.set_cons_zero, List.set_cons_succ]
          refine take_at (i := 11) 24 (v := ?_) rfl rfl (by kernel_rfl) (by kernel_rfl) (by kernel_rfl) (fun _ _ _ h => h) (by rfl) ?_ hHeld ?_
          rotate_left
          · (intro w hSw; (try dsimp only at hSw); go_simp; try with_reducible rfl)
          simp only [Act.put, List.setIfInBounds_toArray, List.set_cons_zero, List.set_cons_succ]
          refine run_at (i := 12) rfl (by kernel_rfl) (by rfl) (fun K hK => ?_)
          simp only [List.getElem_toArray, List.getElem_cons_zero, List.getElem_cons_succ]
          go_simp
          go_wp2_with fail
          refine hK.out _ _ (by exact trivial) ?_
          clear hK K
          intro hHeld2
          clear hHeld
          have hHeld := hHeld2
          clear hHeld2
          try simp only [Act.put, List.setIfInBounds_toArray, List.set_cons_zero, List.set_cons_succ]
          refine wpAnyH_done (by kernel_rfl) ?_ _
          refine NoPanic.normal ?_
      all_goals
        go_wp2
        go_ret
        rw [HE.out, HL.out]
        have hch : Chg (fun b => (Value.slice a1 L.length c1).ownBlock = some b) w1 w5 := (Chg.of_below (al HB2.out _)).trans (Chg.of_grown HG5.out (F := fun b => (Value.slice a1 L.length c1).ownBlock = some b) (fun b e => e)) (fun b e => .inl e)
        obtain ⟨hbv, hbb⟩ := ByV.of_own false HO2.out
        have hbv5 : ByV w5 ⟨false, a2, xs.length, c2⟩ xs := by
          have h9 : ByV (w2.alloc (.cells #[.bool false, .slice a2 xs.length c2] tDg)) ⟨false, a2, xs.length, c2⟩ xs := hbv.below (al (Below.refl _ _) _)
          refine (HW1.out.below (al HB2.out _)).elk ?_ h9
          exact (Chg.of_grown HG5.out (F := fun b => (Value.slice a1 L.length c1).ownBlock = some b) (fun b e => e)).mono (fun b e => .inr e)
        have hO5 : OwnG KD w5 0 (.slice (some ⟨g5, 0, none⟩) (L.length + 1) cap5) (E ++ [⟨false, a2, xs.length, c2⟩]) := HO5.out
        obtain ⟨h8, h9⟩ := HW1.out.setRow hch (v' := .slice (some ⟨g5, 0, none⟩) (L.length + 1) cap5) (E' := E ++ [⟨false, a2, xs.length, c2⟩]) (L' := L ++ [⟨xs, false⟩]) hO5 (fun b e => by
          cases e
          rcases HT5.out with h9 | h9
          · exact .inl h9
          · exact .inr (Nat.le_trans (al HB2.out _).size h9)) (by rw [List.length_append, List.length_append, ← HLE.out]; rfl) (HW1.out.elsPush hch ⟨rfl, hbv5, by show xs.length ≤ 2048; omega⟩) (fun e he ad ha => by
            rcases List.mem_append.1 he with h9 | h9
            · exact .inl ⟨e, h9, ha⟩
            · simp at h9
              subst h9
              exact .inr (hbb ad ha)) (by rw [List.length_append]; exact HR.out)
        exact ⟨rfl, _, _, h8, HST1.out.trans h9⟩
end
end Go.Proofs.YtnpcgegcoakbmaaDoor
