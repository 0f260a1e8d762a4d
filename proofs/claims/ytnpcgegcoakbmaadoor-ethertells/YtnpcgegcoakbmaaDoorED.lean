import Derived.Test.YtnpcgegcoakbmaaDoorEC
namespace Go.Proofs.YtnpcgegcoakbmaaDoor
set_option linter.unusedVariables false
set_option linter.unusedSimpArgs false
open Go.RowKit
theorem below_drewN (w : World) (n : Nat) : Below w.heap.size w (w.drewN n) := ⟨rfl, rfl, rfl, Nat.le_refl _, fun _ _ => rfl⟩
def plE (L : List Dgm) (i : Int) : Int := if 0 ≤ i ∧ i < (L.length : Int) then 0 else 4
def lookX (L : List Dgm) (i : Int) : List UInt8 := if 0 ≤ i ∧ i < (L.length : Int) then ((L[i.toNat]?).map Dgm.xs).getD [] else []
/-- no way, or one that nobody made -/
def W0 (w : World) (q : Option Addr) : Prop := q = none ∨ ∃ p, q = some ⟨p, 0, none⟩ ∧ w.cell? ⟨p, 0, none⟩ = some (.int .i64 0)
section
variable {w w' : World} {p R : Nat} {v : Value} {E : List Dc} {L : List Dgm}
set_option maxRecDepth 20000 in
set_option maxHeartbeats 1600000 in
theorem made_no {q : Option Addr} (h : W0 w q) : Calls Tryd.prog 26 #[.pointer q] w fun e w' => e = .returned (.bool false) ∧ w' = w := by
  rcases h with rfl | ⟨p, rfl, hc⟩
  · go_enter Tryd.func26, Tryd.ntmps26
    go_wp2
    go_ret
    exact ⟨rfl, rfl⟩
  · go_enter Tryd.func26, Tryd.ntmps26
    go_wp2
    go_ret
    exact ⟨rfl, rfl⟩
set_option maxRecDepth 20000 in
set_option maxHeartbeats 1600000 in
theorem made_t (h : Wy SP w p R v E L) : Calls Tryd.prog 26 #[.pointer (some ⟨p, 0, none⟩)] w fun e w' => e = .returned (.bool true) ∧ w' = w := by
  have hc := h.c0
  have hr := h.r0
  have hr0 : (0 : Int) < (R : Int) := by omega
  have hr2 : decide (0 < R) = true := decide_eq_true (by omega)
  clear h
  go_enter Tryd.func26, Tryd.ntmps26
  go_wp2
  go_ret
  first | exact ⟨rfl, rfl⟩ | (rw [hr2]; exact ⟨rfl, rfl⟩)
set_option maxRecDepth 20000 in
set_option maxHeartbeats 1600000 in
theorem full_t (h : Wy SP w p R v E L) : Calls Tryd.prog 27 #[.pointer (some ⟨p, 0, none⟩)] w fun e w' => e = .returned (.bool (decide (L.length = R))) ∧ Below w.heap.size w w' := by
  have hc := h.c0
  have hc1 := h.c1
  obtain ⟨a, c, hv, -⟩ := h.row.val
  rw [h.len] at hv
  subst hv
  have hdec : ((L.length : Int) == (R : Int)) = decide (L.length = R) := by
    by_cases h9 : L.length = R
    · simp [h9]
    · rw [decide_eq_false h9]; simp; omega
  have HD : Hid _ := hdec
  clear h hdec
  go_enter Tryd.func27, Tryd.ntmps27
  go_wp2
  go_quiet (fail)
  go_wp2
  go_ret
  rw [← HD.out]
  exact ⟨rfl, below_drewN _ _⟩
set_option maxRecDepth 20000 in
set_option maxHeartbeats 1600000 in
theorem place_no {q : Option Addr} (h : W0 w q) (i : Int) : Calls Tryd.prog 24 #[.pointer q, .int .i64 i] w fun e w' => e = .returned (.int .i64 1) ∧ w' = w := by
  have H : Hid _ := made_no h
  clear h
  go_enter Tryd.func24, Tryd.ntmps24
  go_wp2_with (go_at_call 26; refine Calls.mono H.out ?_; rintro e w' ⟨rfl, hq⟩; have hq := hq.symm; subst hq)
  go_ret
  exact ⟨rfl, rfl⟩
set_option maxRecDepth 20000 in
set_option maxHeartbeats 1600000 in
theorem place_t (h : Wy SP w p R v E L) (i : Int) : Calls Tryd.prog 24 #[.pointer (some ⟨p, 0, none⟩), .int .i64 i] w fun e w' => e = .returned (.int .i64 (plE L i)) ∧ w' = w := by
  have H : Hid _ := made_t h
  have hc1 := h.c1
  obtain ⟨a, c, hv, -⟩ := h.row.val
  rw [h.len] at hv
  subst hv
  clear h
  by_cases h0 : 0 ≤ i
  · by_cases h1 : i < (L.length : Int)
    · have HE : Hid (plE L i = 0) := by unfold Hid plE; rw [if_pos ⟨h0, h1⟩]
      go_enter Tryd.func24, Tryd.ntmps24
      go_wp2_with (go_at_call 26; refine Calls.mono H.out ?_; rintro e w' ⟨rfl, hq⟩; have hq := hq.symm; subst hq)
      go_ret
      rw [HE.out]
      exact ⟨rfl, rfl⟩
    · have HE : Hid (plE L i = 4) := by unfold Hid plE; rw [if_neg (fun h => h1 h.2)]
      go_enter Tryd.func24, Tryd.ntmps24
      go_wp2_with (go_at_call 26; refine Calls.mono H.out ?_; rintro e w' ⟨rfl, hq⟩; have hq := hq.symm; subst hq)
      go_ret
      rw [HE.out]
      exact ⟨rfl, rfl⟩
  · have HE : Hid (plE L i = 4) := by unfold Hid plE; rw [if_neg (fun h => h0 h.1)]
    go_enter Tryd.func24, Tryd.ntmps24
    go_wp2_with (go_at_call 26; refine Calls.mono H.out ?_; rintro e w' ⟨rfl, hq⟩; have hq := hq.symm; subst hq)
    go_ret
    rw [HE.out]
    exact ⟨rfl, rfl⟩
set_option maxRecDepth 20000 in
set_option maxHeartbeats 1600000 in
theorem len_no {q : Option Addr} (h : W0 w q) : Calls Tryd.prog 9 #[.pointer q] w fun e w' => e = .returned (.int .i64 0) ∧ w' = w := by
  have H : Hid _ := made_no h
  clear h
  go_enter Tryd.func9, Tryd.ntmps9
  go_wp2_with (go_at_call 26; refine Calls.mono H.out ?_; rintro e w' ⟨rfl, hq⟩; have hq := hq.symm; subst hq)
  go_ret
  exact ⟨rfl, rfl⟩
set_option maxRecDepth 20000 in
set_option maxHeartbeats 1600000 in
theorem len_t (h : Wy SP w p R v E L) : Calls Tryd.prog 9 #[.pointer (some ⟨p, 0, none⟩)] w fun e w' => e = .returned (.int .i64 (L.length : Int)) ∧ w' = w := by
  have H : Hid _ := made_t h
  have hc1 := h.c1
  obtain ⟨a, c, hv, -⟩ := h.row.val
  rw [h.len] at hv
  subst hv
  clear h
  go_enter Tryd.func9, Tryd.ntmps9
  go_wp2_with (go_at_call 26; refine Calls.mono H.out ?_; rintro e w' ⟨rfl, hq⟩; have hq := hq.symm; subst hq)
  go_ret
  exact ⟨rfl, rfl⟩
set_option maxRecDepth 20000 in
set_option maxHeartbeats 1600000 in
theorem new_no (r : Int) (hr : ¬ (1 ≤ r ∧ r ≤ 1024)) : Calls Tryd.prog 14 #[.int .i64 r] w fun e w' => e = .returned (.tuple #[.pointer none, .int .i64 1]) ∧ w' = w := by
  by_cases h1 : r < 1
  · go_enter Tryd.func14, Tryd.ntmps14
    go_wp2
    go_ret2
    exact ⟨rfl, rfl⟩
  · have h2 : 1024 < r := by omega
    go_enter Tryd.func14, Tryd.ntmps14
    go_wp2
    go_ret2
    exact ⟨rfl, rfl⟩
set_option maxRecDepth 20000 in
set_option maxHeartbeats 1600000 in
theorem new_t (r : Nat) (h0 : 1 ≤ r) (h1 : r ≤ 1024) : Calls Tryd.prog 14 #[.int .i64 (r : Int)] w fun e w' => e = .returned (.tuple #[.pointer (some ⟨w.heap.size, 0, none⟩), .int .i64 0]) ∧ Wy SP w' w.heap.size r (.slice none 0 0) [] [] ∧ Below w.heap.size w w' := by
  have h2 : ¬ (r : Int) < 1 := by omega
  have h3 : ¬ 1024 < (r : Int) := by omega
  go_enter Tryd.func14, Tryd.ntmps14
  go_wp2
  go_ret2
  exact ⟨rfl, ⟨heap_alloc_new w _, World.ownsRow_nil _ _ _ _, rfl, fun i e d he => by simp at he, h0, h1, by simp⟩, al (Below.refl _ _) _⟩
theorem Wy.cells (h : Wy SP w p R v E L) {g n c : Nat} (hv : v = .slice (some ⟨g, 0, none⟩) n c) (i : Nat) (hi : i < E.length) : w.cell? ⟨g, i * 2, none⟩ = some (.bool E[i].tn) ∧ w.cell? ⟨g, i * 2 + 1, none⟩ = some E[i].v := by
  have ho := h.row
  rw [hv] at ho
  have hn : n = E.length := by
    obtain ⟨a, c, h1, -⟩ := ho.val
    cases h1
    rfl
  exact ⟨ho.cell hn i 0 hi (by decide), ho.cell hn i 1 hi (by decide)⟩
set_option maxRecDepth 20000 in
set_option maxHeartbeats 1600000 in
theorem look_no {q : Option Addr} (h : W0 w q) (i : Int) : Calls Tryd.prog 7 #[.pointer q, .int .i64 i] w fun e w' => e = .returned (.tuple #[.slice none 0 0, .int .i64 1]) ∧ w' = w := by
  have H : Hid _ := place_no h i
  clear h
  go_enter Tryd.func7, Tryd.ntmps7
  go_wp2_with (go_at_call 24; refine Calls.mono H.out ?_; rintro e w' ⟨rfl, hq⟩; have hq := hq.symm; subst hq)
  go_ret2
  exact ⟨rfl, rfl⟩
set_option maxRecDepth 20000 in
set_option maxHeartbeats 1600000 in
theorem take_no {q : Option Addr} (h : W0 w q) (i : Int) : Calls Tryd.prog 8 #[.pointer q, .int .i64 i] w fun e w' => e = .returned (.tuple #[.slice none 0 0, .int .i64 1]) ∧ w' = w := by
  have H : Hid _ := look_no h i
  clear h
  go_enter Tryd.func8, Tryd.ntmps8
  go_wp2_with (go_at_call 7; refine Calls.mono H.out ?_; rintro e w' ⟨rfl, hq⟩; have hq := hq.symm; subst hq)
  go_ret2
  exact ⟨rfl, rfl⟩
set_option maxRecDepth 20000 in
set_option maxHeartbeats 1600000 in
theorem put_no {q : Option Addr} (h : W0 w q) (b : Value) : Calls Tryd.prog 10 #[.pointer q, b] w fun e w' => e = .returned (.int .i64 1) ∧ w' = w := by
  have H : Hid _ := made_no h
  clear h
  go_enter Tryd.func10, Tryd.ntmps10
  go_wp2_with (go_at_call 26; refine Calls.mono H.out ?_; rintro e w' ⟨rfl, hq⟩; have hq := hq.symm; subst hq)
  go_ret
  exact ⟨rfl, rfl⟩
set_option maxRecDepth 20000 in
set_option maxHeartbeats 1600000 in
theorem drop_no {q : Option Addr} (h : W0 w q) (i : Int) : Calls Tryd.prog 11 #[.pointer q, .int .i64 i] w fun e w' => e = .returned (.int .i64 1) ∧ w' = w := by
  have H : Hid _ := place_no h i
  clear h
  go_enter Tryd.func11, Tryd.ntmps11
  go_wp2_with (go_at_call 24; refine Calls.mono H.out ?_; rintro e w' ⟨rfl, hq⟩; have hq := hq.symm; subst hq)
  go_ret
  exact ⟨rfl, rfl⟩
set_option maxRecDepth 20000 in
set_option maxHeartbeats 1600000 in
theorem double_no {q : Option Addr} (h : W0 w q) (i : Int) : Calls Tryd.prog 12 #[.pointer q, .int .i64 i] w fun e w' => e = .returned (.int .i64 1) ∧ w' = w := by
  have H : Hid _ := place_no h i
  clear h
  go_enter Tryd.func12, Tryd.ntmps12
  go_wp2_with (go_at_call 24; refine Calls.mono H.out ?_; rintro e w' ⟨rfl, hq⟩; have hq := hq.symm; subst hq)
  go_ret
  exact ⟨rfl, rfl⟩
set_option maxRecDepth 20000 in
set_option maxHeartbeats 1600000 in
theorem turn_no {q : Option Addr} (h : W0 w q) (i a m : Int) : Calls Tryd.prog 13 #[.pointer q, .int .i64 i, .int .i64 a, .int .u32 m] w fun e w' => e = .returned (.int .i64 1) ∧ w' = w := by
  have H : Hid _ := place_no h i
  clear h
  go_enter Tryd.func13, Tryd.ntmps13
  go_wp2_with (go_at_call 24; refine Calls.mono H.out ?_; rintro e w' ⟨rfl, hq⟩; have hq := hq.symm; subst hq)
  go_ret
  exact ⟨rfl, rfl⟩
set_option maxRecDepth 20000 in
set_option maxHeartbeats 1600000 in
theorem look_t (h : Wy SP w p R v E L) (i : Int) : Calls Tryd.prog 7 #[.pointer (some ⟨p, 0, none⟩), .int .i64 i] w fun e w' => ∃ u, e = .returned (.tuple #[u, .int .i64 (plE L i)]) ∧ Own w' w.heap.size u (lookX L i) ∧ Below w.heap.size w w' := by
  have H : Hid _ := place_t h i
  by_cases hin : 0 ≤ i ∧ i < (L.length : Int)
  · obtain ⟨k, rfl⟩ : ∃ k : Nat, i = (k : Int) := ⟨i.toNat, by omega⟩
    have hk : k < L.length := by omega
    have hkE : k < E.length := by rw [h.len]; exact hk
    have HE : Hid (plE L k = 0) := by unfold Hid plE; rw [if_pos hin]
    have HX : Hid (lookX L k = L[k].xs) := by unfold Hid lookX; rw [if_pos hin]; simp [hk]
    have hc1 := h.c1
    obtain ⟨g, c, hv, hlc, hcm, -, hgl⟩ := h.row.one (by omega)
    obtain ⟨-, hcl⟩ := h.cells hv k hkE
    obtain ⟨-, hby, hlen⟩ := h.els k E[k] L[k] (List.getElem?_eq_getElem hkE) (List.getElem?_eq_getElem hk)
    rw [h.len] at hv
    subst hv
    generalize E[k] = e at *
    generalize L[k].xs = xs at *
    obtain ⟨tn, ea, en, ec⟩ := e
    have hn := hby.n
    simp only at hn
    subst hn
    have HB : Hid _ := hby
    have hk0 : (0 : Int) ≤ (k : Int) := by omega
    have hkI : (k : Int) < (L.length : Int) := by omega
    clear h hby hin hlc hcm hgl hkE
    go_enter Tryd.func7, Tryd.ntmps7
    go_wp2_with (first | (go_at_call 24; refine Calls.mono H.out ?_; rintro e w' ⟨rfl, hq⟩; have hq := hq.symm; subst hq; rw [HE.out]) | (go_at_call 25; refine Calls.mono (clone_any ea ec xs _ HB.out.rd HB.out.nil (by omega)) ?_; rintro e w' ⟨u, rfl, hown, hbel⟩))
    go_ret2
    rw [HE.out, HX.out]
    exact ⟨u, rfl, hown, hbel⟩
  · have HE : Hid (plE L i = 4) := by unfold Hid plE; rw [if_neg hin]
    have HX : Hid (lookX L i = []) := by unfold Hid lookX; rw [if_neg hin]
    clear h hin
    go_enter Tryd.func7, Tryd.ntmps7
    go_wp2_with (go_at_call 24; refine Calls.mono H.out ?_; rintro e w' ⟨rfl, hq⟩; have hq := hq.symm; subst hq; rw [HE.out])
    go_ret2
    rw [HE.out, HX.out]
    exact ⟨_, rfl, World.ownsRow_nil _ _ _ _, Below.refl _ _⟩
end
end Go.Proofs.YtnpcgegcoakbmaaDoor
