import Derived.Test.YtnpcgegcoakbmaaDoorEI
import Derived.Test.YtnpcgegcoakbmaaDoorRL
import Derived.Test.YtnpcgegcoakbmaaDoorRefBurst
namespace Go.Proofs.YtnpcgegcoakbmaaDoor
set_option linter.unusedVariables false
set_option linter.unusedSimpArgs false
open Go.RowKit
section
variable {w w' : World} {p R : Nat} {v : Value} {E : List Dc} {L : List Dgm}
set_option maxRecDepth 20000 in
set_option maxHeartbeats 1600000 in
theorem copied_t (ao : Option Addr) (n cap : Nat) (xs : List UInt8) (hn : n = xs.length) (hx : Rd w ao xs) (hnil : ao = none → cap = 0) (hl : n ≤ 140737488355328) :
    Calls Tryd.prog 44 #[.slice ao n cap] w fun e w' => ∃ v, e = .returned v ∧ Own w' w.heap.size v xs ∧ Below w.heap.size w w' := by
  subst hn
  have HN : Hid (ao = none → cap = 0) := hnil
  clear hnil
  have h0 : Own w w.heap.size (.slice none 0 0) [] := World.ownsRow_nil _ _ _ _
  go_enter Tryd.func44, Tryd.ntmps44
  go_wp2_with (at_builtin; refine wp_app rfl _ _ rfl w.heap.size (.slice none 0 0) [] xs _ _ rfl h0 rfl hx HN.out (by simp; omega) (Nat.le_refl _) ?_; intro v1 w1 hown1 hg1)
  go_ret
  exact ⟨_, rfl, by simpa using hown1, (Below.refl _ w).grown hg1 (Nat.le_refl _) (fun k hk => by cases hk)⟩
set_option maxRecDepth 20000 in
set_option maxHeartbeats 1600000 in
theorem at_t (h : Wy SR w p R v E L) (i : Int) : Calls Tryd.prog 45 #[.pointer (some ⟨p, 0, none⟩), .int .i64 i] w fun e w' => e = .returned (.bool (decide (0 ≤ i ∧ i < (L.length : Int)))) ∧ w' = w := by
  have hc1 := h.c1
  obtain ⟨a, c, hv, -⟩ := h.row.val
  rw [h.len] at hv
  subst hv
  clear h
  by_cases h0 : 0 ≤ i
  · by_cases h1 : i < (L.length : Int)
    · have HE : Hid (decide (0 ≤ i ∧ i < (L.length : Int)) = true) := decide_eq_true ⟨h0, h1⟩
      have hd1 : decide (i < (L.length : Int)) = true := decide_eq_true h1
      rw [HE.out]
      clear HE
      go_enter Tryd.func45, Tryd.ntmps45
      go_wp2
      go_ret
      first | exact ⟨rfl, rfl⟩ | (rw [hd1]; exact ⟨rfl, rfl⟩)
    · have HE : Hid (decide (0 ≤ i ∧ i < (L.length : Int)) = false) := decide_eq_false (fun h => h1 h.2)
      have hd1 : decide (i < (L.length : Int)) = false := decide_eq_false h1
      rw [HE.out]
      clear HE
      go_enter Tryd.func45, Tryd.ntmps45
      go_wp2
      go_ret
      first | exact ⟨rfl, rfl⟩ | (rw [hd1]; exact ⟨rfl, rfl⟩)
  · have HE : Hid (decide (0 ≤ i ∧ i < (L.length : Int)) = false) := decide_eq_false (fun h => h0 h.1)
    rw [HE.out]
    clear HE
    go_enter Tryd.func45, Tryd.ntmps45
    go_wp2
    go_ret
    exact ⟨rfl, rfl⟩
set_option maxRecDepth 20000 in
set_option maxHeartbeats 1600000 in
theorem rnew_no (r : Int) (hr : ¬ (1 ≤ r ∧ r ≤ 1024)) : Calls Tryd.prog 22 #[.int .i64 r] w fun e w' => e = .returned (.tuple #[.pointer none, .int .i64 1]) ∧ w' = w := by
  by_cases h1 : r < 1
  · go_enter Tryd.func22, Tryd.ntmps22
    go_wp2
    go_ret2
    exact ⟨rfl, rfl⟩
  · have h2 : 1024 < r := by omega
    go_enter Tryd.func22, Tryd.ntmps22
    go_wp2
    go_ret2
    exact ⟨rfl, rfl⟩
set_option maxRecDepth 20000 in
set_option maxHeartbeats 1600000 in
theorem rnew_t (r : Nat) (h0 : 1 ≤ r) (h1 : r ≤ 1024) : Calls Tryd.prog 22 #[.int .i64 (r : Int)] w fun e w' => e = .returned (.tuple #[.pointer (some ⟨w.heap.size, 0, none⟩), .int .i64 0]) ∧ Wy SR w' w.heap.size r (.slice none 0 0) [] [] ∧ Below w.heap.size w w' := by
  have h2 : ¬ (r : Int) < 1 := by omega
  have h3 : ¬ 1024 < (r : Int) := by omega
  go_enter Tryd.func22, Tryd.ntmps22
  go_wp2
  go_ret2
  exact ⟨rfl, ⟨heap_alloc_new w _, World.ownsRow_nil _ _ _ _, rfl, fun i e d he => by simp at he, h0, h1, by simp⟩, al (Below.refl _ _) _⟩
theorem Wy.rat (h : Wy SR w p R v E L) {g n c k : Nat} {d : Dgm} (hv : v = .slice (some ⟨g, 0, none⟩) n c) (hd : L[k]? = some d) : ∃ e : Dc, e ∈ E ∧ w.cell? ⟨g, k * 2, none⟩ = some (.slice e.a e.n e.c) ∧ w.cell? ⟨g, k * 2 + 1, none⟩ = some (.bool e.tn) ∧ e.tn = d.tn ∧ ByV w e d.xs ∧ d.xs.length ≤ 2048 := by
  have hk : k < L.length := (List.getElem?_eq_some_iff.1 hd).1
  have hkE : k < E.length := by rw [h.len]; exact hk
  have ho := h.row
  rw [hv] at ho
  have hn : n = E.length := by
    obtain ⟨a, c, h1, -⟩ := ho.val
    cases h1
    rfl
  exact ⟨E[k], List.getElem_mem _, ho.cell hn k 0 hkE (by decide), ho.cell hn k 1 hkE (by decide), h.els k E[k] d (List.getElem?_eq_getElem hkE) hd⟩
set_option maxRecDepth 20000 in
set_option maxHeartbeats 1600000 in
theorem rlook_t (h : Wy SR w p R v E L) (i : Int) : Calls Tryd.prog 35 #[.pointer (some ⟨p, 0, none⟩), .int .i64 i] w fun e w' => ∃ u, e = .returned (.tuple #[u, .int .i64 (plE L i)]) ∧ Own w' w.heap.size u (lookX L i) ∧ Below w.heap.size w w' := by
  have H : Hid _ := at_t h i
  by_cases hin : 0 ≤ i ∧ i < (L.length : Int)
  · obtain ⟨k, rfl⟩ : ∃ k : Nat, i = (k : Int) := ⟨i.toNat, by omega⟩
    have hk : k < L.length := by omega
    have HD : Hid (decide (0 ≤ (k : Int) ∧ (k : Int) < (L.length : Int)) = true) := decide_eq_true hin
    have HE : Hid (plE L k = 0) := by unfold Hid plE; rw [if_pos hin]
    obtain ⟨d, hd⟩ : ∃ d, L[k]? = some d := ⟨_, List.getElem?_eq_getElem hk⟩
    have HX : Hid (lookX L k = d.xs) := by unfold Hid lookX; rw [if_pos hin, Int.toNat_natCast, hd]; rfl
    have hc1 := h.c1
    obtain ⟨g, c, hv, hlc, hcm, -, hgl⟩ := h.row.one (by rw [h.len]; omega)
    obtain ⟨⟨tn, ea, en, ec⟩, -, hcl, -, -, hby, hlen⟩ := h.rat hv hd
    rw [h.len] at hv
    subst hv
    have hn := hby.n
    simp only at hn
    subst hn
    have HB : Hid _ := hby
    have hk0 : (0 : Int) ≤ (k : Int) := by omega
    have hkI : (k : Int) < (L.length : Int) := by omega
    clear h hby hin hlc hcm hgl hd
    go_enter Tryd.func35, Tryd.ntmps35
    go_wp2_with (first | (go_at_call 45; refine Calls.mono H.out ?_; rintro e w' ⟨rfl, hq⟩; have hq := hq.symm; subst hq; rw [HD.out]) | (go_at_call 44; refine Calls.mono (copied_t ea _ ec d.xs rfl HB.out.rd HB.out.nil (by omega)) ?_; rintro e w' ⟨u, rfl, hown, hbel⟩))
    go_ret2
    rw [HE.out, HX.out]
    exact ⟨u, rfl, hown, hbel⟩
  · have HD : Hid (decide (0 ≤ i ∧ i < (L.length : Int)) = false) := decide_eq_false hin
    have HE : Hid (plE L i = 4) := by unfold Hid plE; rw [if_neg hin]
    have HX : Hid (lookX L i = []) := by unfold Hid lookX; rw [if_neg hin]
    clear h hin
    go_enter Tryd.func35, Tryd.ntmps35
    go_wp2_with (go_at_call 45; refine Calls.mono H.out ?_; rintro e w' ⟨rfl, hq⟩; have hq := hq.symm; subst hq; rw [HD.out])
    go_ret2
    rw [HE.out, HX.out]
    exact ⟨_, rfl, World.ownsRow_nil _ _ _ _, Below.refl _ _⟩
set_option maxRecDepth 20000 in
set_option maxHeartbeats 3200000 in
theorem rput_t (h : Wy SR w p R v E L) (ao : Option Addr) (n cap : Nat) (xs : List UInt8) (hn : n = xs.length) (hx : Rd w ao xs) (hnil : ao = none → cap = 0) (hl : n ≤ 140737488355328) :
    Calls Tryd.prog 33 #[.pointer (some ⟨p, 0, none⟩), .slice ao n cap] w fun e w' => e = .returned (.int .i64 (putE R L xs)) ∧ ∃ v' E', Wy SR w' p R v' E' (putL R L xs) ∧ WSt w w' p v E v' E' := by
  subst hn
  have HW : Hid _ := h
  by_cases hs : 2048 < xs.length
  · have HE : Hid (putE R L xs = 81) := by unfold Hid putE; rw [if_pos hs]
    have HL : Hid (putL R L xs = L) := by unfold Hid putL; rw [if_pos hs]
    have hsI : (2048 : Int) < (xs.length : Int) := by omega
    clear h hx hnil
    go_enter Tryd.func33, Tryd.ntmps33
    go_wp2
    go_ret
    rw [HE.out, HL.out]
    exact ⟨rfl, v, E, HW.out, WSt.refl _ _ _ _⟩
  · have hsI : ¬ (2048 : Int) < (xs.length : Int) := by omega
    obtain ⟨a1, c1, hv, -, -, -, -⟩ := h.row.val
    rw [h.len] at hv
    subst hv
    have d0 := h.c0
    have d1 := h.c1
    by_cases hr : L.length = R
    · have HE : Hid (putE R L xs = 2) := by unfold Hid putE; rw [if_neg hs, if_pos hr]
      have HL : Hid (putL R L xs = L) := by unfold Hid putL; rw [if_neg hs, if_pos hr]
      have hdq : ((L.length : Int) == (R : Int)) = true := by simp [hr]
      clear h hx hnil hr
      go_enter Tryd.func33, Tryd.ntmps33
      go_wp2
      go_quiet (fail)
      go_wp2
      go_ret
      rw [HE.out, HL.out]
      exact ⟨rfl, _, E, HW.out.below (below_drewN _ _), WSt.below (below_drewN _ _) _ _ _⟩
    · have HE : Hid (putE R L xs = 0) := by unfold Hid putE; rw [if_neg hs, if_neg hr]
      have HL : Hid (putL R L xs = L ++ [⟨xs, false⟩]) := by unfold Hid putL; rw [if_neg hs, if_neg hr]
      have hdq : ((L.length : Int) == (R : Int)) = false := by simp; omega
      have HR : Hid (L.length + 1 ≤ R) := by have := h.lr; unfold Hid; omega
      have hLm : L.length ≤ 1024 := by have := h.lr; have := h.r1; omega
      have HX : Hid _ := hx
      have HN : Hid _ := hnil
      clear h hx hnil hr
      go_enter Tryd.func33, Tryd.ntmps33
      go_wp2
      go_quiet (fail)
      go_wp2
      obtain ⟨w1, hw1⟩ : ∃ w1, w1 = w.drewN nq := ⟨_, rfl⟩
      have hb1 : Below w.heap.size w w1 := by rw [hw1]; exact below_drewN _ _
      rw [← hw1]
      clear hw1 d0 d1
      have h1 := HW.out.below hb1
      have HW1 : Hid _ := h1
      have HST1 : Hid _ := WSt.below hb1 p (.slice a1 L.length c1) E
      have HC1 : Hid (∀ u, Below w1.heap.size w1 u → u.cell? ⟨p, 1, none⟩ = some (.slice a1 L.length c1)) := fun u hu => (h1.below hu).c1
      have HRD : Hid (∀ u, Below w1.heap.size w1 u → Rd u ao xs) := fun u hu => Rd.below (Rd.below HX.out hb1) hu
      have HOW : Hid (∀ u, Below w1.heap.size w1 u → OwnG KR u 0 (.slice a1 L.length c1) E) := fun u hu => h1.row.below hu
      have HQ : Hid (∀ u u', Below w1.heap.size w1 u → u.grownBy u' (Value.slice a1 L.length c1).ownBlock → u'.cell? ⟨p, 1, none⟩ = some (.slice a1 L.length c1) ∧ u'.frozen? ⟨p, 1, none⟩ = false) := fun u u' hu hg => by
        have h9 := h1.below hu
        have h8 : u'.heap[p]? = u.heap[p]? := hg.block p (h9.lt (.inl rfl)) (fun e => h9.pv e.symm)
        exact ⟨(World.cell?_of_block h8).trans h9.c1, (World.frozen?_of_block h8).trans (h9.fz 1)⟩
      have HLE : Hid (L.length = E.length) := h1.len.symm
      clear h1 hb1
      refine wp_region_noPanic ?_
      refine wp_region_late_drew (S := (fun u => Below w1.heap.size w1 u)) (X := [9, 10, 11, 12]) (by kernel_rfl) (by first | exact (Below.refl _ _).drew | exact HB2.out | exact al HB2.out _) (fun hHeld => ?_)
      refine take_atA (i := 0) 18 (v := ?_) rfl rfl (by kernel_rfl) (by kernel_rfl) (by kernel_rfl) (by decide) (fun _ _ _ h => h) (by rfl) ?_ hHeld ?_
      rotate_left
      · (intro w; go_simp; try with_reducible rfl)
      simp only [Act.put, List.setIfInBounds_toArray, List.set_cons_zero, List.set_cons_succ]
      refine take_atA (i := 1) 19 (v := ?_) rfl rfl (by kernel_rfl) (by kernel_rfl) (by kernel_rfl) (by decide) (fun _ _ _ h => h) (by rfl) ?_ hHeld ?_
      rotate_left
      · (intro w; go_simp; try with_reducible rfl)
      simp only [Act.put, List.setIfInBounds_toArray, List.set_cons_zero, List.set_cons_succ]
      refine take_atA (i := 2) 20 (v := ?_) rfl rfl (by kernel_rfl) (by kernel_rfl) (by kernel_rfl) (by decide) (fun _ _ _ h => h) (by rfl) ?_ hHeld ?_
      rotate_left
      · (intro w; go_simp; try with_reducible rfl)
      simp only [Act.put, List.setIfInBounds_toArray, List.set_cons_zero, List.set_cons_succ]
      refine take_atA (i := 3) 21 (v := ?_) rfl rfl (by kernel_rfl) (by kernel_rfl) (by kernel_rfl) (by decide) (fun _ _ _ h => h) (by rfl) ?_ hHeld ?_
      rotate_left
      · (intro w; go_simp; try with_reducible rfl)
      simp only [Act.put, List.setIfInBounds_toArray, List.set_cons_zero, List.set_cons_succ]
      refine take_atL (i := 4) 22 (v := .slice a1 L.length c1) rfl rfl (by kernel_rfl) (by kernel_rfl) (by kernel_rfl) (by kernel_rfl) (fun _ _ _ h => h) (by rfl) ?_ hHeld ?_
      · (intro w hSw; have hc9 := HC1.out _ hSw; go_simp; try with_reducible rfl)
      simp only [Act.put, List.setIfInBounds_toArray, List.set_cons_zero, List.set_cons_succ]
      refine take_atA (i := 5) 23 (v := ?_) rfl rfl (by kernel_rfl) (by kernel_rfl) (by kernel_rfl) (by decide) (fun _ _ _ h => h) (by rfl) ?_ hHeld ?_
      rotate_left
      · (intro w; go_simp; try with_reducible rfl)
      simp only [Act.put, List.setIfInBounds_toArray, List.set_cons_zero, List.set_cons_succ]
      refine run_atL (i := 6) rfl (by kernel_rfl) (by rfl) (fun K hK => ?_)
      simp only [List.getElem_toArray, List.getElem_cons_zero, List.getElem_cons_succ]
      go_simp
      first | (go_at_call 44; refine Calls.mono (copied_t ao _ cap xs rfl (HRD.out _ hHeld) HN.out hl) ?_; rintro e w2 ⟨u2, rfl, hown2, hb2'⟩; have hb2 : Below w1.heap.size w1 w2 := ⟨hb2'.os, hb2'.tape, hb2'.output, hb2'.size, hb2'.block⟩; clear hb2'; obtain ⟨a2, c2, hu2, -, -, -, -, -⟩ := hown2.val; subst hu2; have HO2 : Hid _ := hown2; have HB2 : Hid _ := hb2; clear hown2 hb2) | (refine wpo_appG1 (K := KR) _ _ rfl 0 (.slice a1 L.length c1) E ⟨false, a2, xs.length, c2⟩ L.length HLE.out ⟨w2.heap.size, 0, none⟩ 1 rfl (HOW.out _ (al HB2.out _)) rfl (rdG_lit (heap_alloc_new _ _) rfl) (by show (L.length + 1) * 32 ≤ _; omega) (by simp only [maxLen]; omega) (Nat.zero_le _) ?_; intro g5 cap5 w5 hown5 hg5 hat5; obtain ⟨hc5, hf5⟩ := HQ.out _ _ (al HB2.out _) hg5; have HO5 : Hid _ := hown5; have HG5 : Hid _ := hg5; have HT5 : Hid _ := hat5; clear hown5 hg5 hat5)
      go_wp2_with fail
      refine hK.out _ _ (by first | exact (Below.refl _ _).drew | exact HB2.out | exact al HB2.out _) ?_
      clear hK K
      intro hHeld2
      clear hHeld
      have hHeld := hHeld2
      clear hHeld2
      try simp only [Act.put, List.setIfInBounds_toArray, List.set_cons_zero, List.set_cons_succ]
      refine take_atA (i := 7) 25 (v := ?_) rfl rfl (by kernel_rfl) (by kernel_rfl) (by kernel_rfl) (by decide) (fun _ _ _ h => h) (by rfl) ?_ hHeld ?_
      rotate_left
      · (intro w; go_simp; try with_reducible rfl)
      simp only [Act.put, List.setIfInBounds_toArray, List.set_cons_zero, List.set_cons_succ]
      refine run_atL (i := 8) rfl (by kernel_rfl) (by rfl) (fun K hK => ?_)
      simp only [List.getElem_toArray, List.getElem_cons_zero, List.getElem_cons_succ]
      go_simp
      go_wp2_with fail
      refine hK.out _ _ (by first | exact (Below.refl _ _).drew | exact HB2.out | exact al HB2.out _) ?_
      clear hK K
      intro hHeld2
      clear hHeld
      have hHeld := hHeld2
      clear hHeld2
      try simp only [Act.put, List.setIfInBounds_toArray, List.set_cons_zero, List.set_cons_succ]
      refine run_atLate (i := 9) rfl (by kernel_rfl) (by decide) (by rfl) (fun K hK => ?_)
      simp only [List.getElem_toArray, List.getElem_cons_zero, List.getElem_cons_succ]
      first | (go_at_call 44; refine Calls.mono (copied_t ao _ cap xs rfl (HRD.out _ hHeld) HN.out hl) ?_; rintro e w2 ⟨u2, rfl, hown2, hb2'⟩; have hb2 : Below w1.heap.size w1 w2 := ⟨hb2'.os, hb2'.tape, hb2'.output, hb2'.size, hb2'.block⟩; clear hb2'; obtain ⟨a2, c2, hu2, -, -, -, -, -⟩ := hown2.val; subst hu2; have HO2 : Hid _ := hown2; have HB2 : Hid _ := hb2; clear hown2 hb2) | (refine wpo_appG1 (K := KR) _ _ rfl 0 (.slice a1 L.length c1) E ⟨false, a2, xs.length, c2⟩ L.length HLE.out ⟨w2.heap.size, 0, none⟩ 1 rfl (HOW.out _ (al HB2.out _)) rfl (rdG_lit (heap_alloc_new _ _) rfl) (by show (L.length + 1) * 32 ≤ _; omega) (by simp only [maxLen]; omega) (Nat.zero_le _) ?_; intro g5 cap5 w5 hown5 hg5 hat5; obtain ⟨hc5, hf5⟩ := HQ.out _ _ (al HB2.out _) hg5; have HO5 : Hid _ := hown5; have HG5 : Hid _ := hg5; have HT5 : Hid _ := hat5; clear hown5 hg5 hat5)
      refine hK.out _ _ ?_
      clear hK K
      try simp only [Act.put, List.setIfInBounds_toArray, List.set_cons_zero, List.set_cons_succ]
      refine val_atLate (i := 10) 28 (v := ?_) rfl rfl (by kernel_rfl) (by decide) (by rfl) ?_ ?_
      rotate_left
      · (go_simp; try with_reducible rfl)
      simp only [Act.put, List.setIfInBounds_toArray, List.set_cons_zero, List.set_cons_succ]
      refine val_atLate (i := 11) 29 (v := ?_) rfl rfl (by kernel_rfl) (by decide) (by rfl) ?_ ?_
      rotate_left
      · (go_simp; try with_reducible rfl)
      simp only [Act.put, List.setIfInBounds_toArray, List.set_cons_zero, List.set_cons_succ]
      refine run_atLate (i := 12) rfl (by kernel_rfl) (by decide) (by rfl) (fun K hK => ?_)
      simp only [List.getElem_toArray, List.getElem_cons_zero, List.getElem_cons_succ]
      go_simp
      go_wp2_with fail
      refine hK.out _ _ ?_
      clear hK K
      try simp only [Act.put, List.setIfInBounds_toArray, List.set_cons_zero, List.set_cons_succ]
      refine doneL (by kernel_rfl) ?_ _
      refine NoPanic.normal ?_
      go_wp2
      go_ret
      rw [HE.out, HL.out]
      have hch : Chg (fun b => (Value.slice a1 L.length c1).ownBlock = some b) w1 w5 := (Chg.of_below (al HB2.out _)).trans (Chg.of_grown HG5.out (F := fun b => (Value.slice a1 L.length c1).ownBlock = some b) (fun b e => e)) (fun b e => .inl e)
      obtain ⟨hbv, hbb⟩ := ByV.of_own false HO2.out
      have hbv5 : ByV w5 ⟨false, a2, xs.length, c2⟩ xs := by
        have h9 : ByV (w2.alloc (.cells #[.slice a2 xs.length c2, .bool false] KR.t)) ⟨false, a2, xs.length, c2⟩ xs := hbv.below (al (Below.refl _ _) _)
        refine (HW1.out.below (al HB2.out _)).elk ?_ h9
        exact (Chg.of_grown HG5.out (F := fun b => (Value.slice a1 L.length c1).ownBlock = some b) (fun b e => e)).mono (fun b e => .inr e)
      have hO5 : OwnG KR w5 0 (.slice (some ⟨g5, 0, none⟩) (L.length + 1) cap5) (E ++ [⟨false, a2, xs.length, c2⟩]) := HO5.out
      obtain ⟨h8, h9⟩ := HW1.out.setRow hch (v' := .slice (some ⟨g5, 0, none⟩) (L.length + 1) cap5) (E' := E ++ [⟨false, a2, xs.length, c2⟩]) (L' := L ++ [⟨xs, false⟩]) hO5 (fun b e => by
        cases e
        rcases HT5.out with h9 | h9
        · exact .inl h9
        · exact .inr (Nat.le_trans (al HB2.out _).size h9)) (by rw [List.length_append, List.length_append, ← HLE.out]; rfl) (HW1.out.elsPush hch ⟨rfl, hbv5, by show xs.length ≤ 2048; omega⟩) (fun e he ad ha => by
          rcases List.mem_append.1 he with h9 | h9
          · exact .inl ⟨e, h9, ha⟩
          · simp at h9
            subst h9
            exact .inr (hbb ad ha)) (by rw [List.length_append]; exact HR.out)
      exact ⟨rfl, _, _, h8, HST1.out.trans h9⟩
end
end Go.Proofs.YtnpcgegcoakbmaaDoor
