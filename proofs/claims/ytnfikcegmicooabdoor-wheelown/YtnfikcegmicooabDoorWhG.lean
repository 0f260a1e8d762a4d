import Derived.Test.YtnfikcegmicooabDoorWhF
namespace Go.Proofs.YtnfikcegmicooabDoor
set_option linter.unusedVariables false
set_option linter.unusedSimpArgs false
open Go.RowKit Go.Maps
theorem gset1 (w : World) (g i : Nat) (v : Value) : w.grownBy (w.setCell ⟨g, i, none⟩ v) (some g) :=
  ⟨rfl, rfl, rfl, by simp, fun k _ hne => heap_setCell_other _ _ _ _ (fun e => hne (by rw [e]))⟩
theorem setCell_drewN (w : World) (n : Nat) (a : Addr) (v : Value) : (w.drewN n).setCell a v = (w.setCell a v).drewN n := rfl
theorem alloc_drewN (w : World) (n : Nat) (o : Obj) : (w.drewN n).alloc o = (w.alloc o).drewN n := rfl
theorem Drw.heap {w w' : World} (h : Drw w w') : w'.heap = w.heap := by obtain ⟨n, rfl⟩ := h; rfl
theorem Drw.below {w w' : World} (h : Drw w w') (B : Nat) : Below B w w' := by obtain ⟨n, rfl⟩ := h; exact ⟨rfl, rfl, rfl, Nat.le_refl _, fun _ _ => rfl⟩
theorem Drw.refl (w : World) : Drw w w := ⟨0, rfl⟩
theorem Drw.trans {a b c : World} (h : Drw a b) (k : Drw b c) : Drw a c := by
  obtain ⟨n, rfl⟩ := h
  obtain ⟨m, rfl⟩ := k
  exact ⟨n + m, by simp⟩
section
variable {w w' : World} {p m N S : Nat} {F : Nat → Nat → List Tm} {V : Nat → Nat → Value} {fl : Nat → Nat} {K : List Int} {X : Int → Pl}
theorem Whl.drw (h : Whl w p m N S F V fl K X) (hd : Drw w w') : Whl w' p m N S F V fl K X := h.kept (fun b _ => by rw [hd.heap])
theorem Stp.drw {V' : Nat → Nat → Value} {w'' : World} (h : Stp w w' p m V V') (hd : Drw w' w'') : Stp w w'' p m V V' := h.trans (Stp.below (hd.below _) _ _ _)
/-- a store into the wheel's own block -/
theorem Stp.set {V' : Nat → Nat → Value} (h : Stp w w' p m V V') (i : Nat) (v : Value) : Stp w (w'.setCell ⟨p, i, none⟩ v) p m V V' :=
  ⟨h.chg.trans (G := fun b => b = p) (Chg.of_grown (row := some p) (gset1 w' p i v) (fun b e => (Option.some.inj e).symm)) (fun b e => .inl (.inl e)), h.new⟩
end
theorem flatM_set (xs : List Tm) (i : Nat) (t : Tm) (h : i < xs.length) : flatM (xs.set i t) = (((flatM xs).set (i * 3) (.int .i64 t.id)).set (i * 3 + 1) (.int .u64 (t.at_ : Int))).set (i * 3 + 2) (.int .u64 (t.ord : Int)) := by
  apply List.ext_getElem?
  intro r
  by_cases hr : r < xs.length * 3
  · have h1 := flatM_get (xs.set i t) (r / 3) (r % 3) (by simp; omega) (by omega)
    have h2 := flatM_get xs (r / 3) (r % 3) (by omega) (by omega)
    rw [show r / 3 * 3 + r % 3 = r by omega] at h1 h2
    rw [h1]
    by_cases e : r / 3 = i
    · have h3 : (xs.set i t)[r / 3]'(by simp; omega) = t := by simp [e]
      rw [h3]
      have hl : r < (flatM xs).length := by rw [flatM_len]; exact hr
      have h4 : r % 3 = 0 ∨ r % 3 = 1 ∨ r % 3 = 2 := by omega
      rcases h4 with h4 | h4 | h4
      · rw [h4, List.getElem?_set_ne (by omega), List.getElem?_set_ne (by omega), show r = i * 3 by omega, List.getElem?_set_self (by rw [flatM_len]; omega)]
        rfl
      · rw [h4, List.getElem?_set_ne (by omega), show r = i * 3 + 1 by omega, List.getElem?_set_self (by rw [List.length_set, flatM_len]; omega)]
        rfl
      · rw [h4, show r = i * 3 + 2 by omega, List.getElem?_set_self (by rw [List.length_set, List.length_set, flatM_len]; omega)]
        rfl
    · have h3 : (xs.set i t)[r / 3]'(by simp; omega) = xs[r / 3]'(by omega) := by rw [List.getElem_set_ne (fun e9 => e e9.symm)]
      rw [h3, ← h2, List.getElem?_set_ne (by omega), List.getElem?_set_ne (by omega), List.getElem?_set_ne (by omega)]
  · rw [List.getElem?_eq_none (by rw [flatM_len, List.length_set]; omega), List.getElem?_eq_none (by rw [List.length_set, List.length_set, List.length_set, flatM_len]; omega)]
/-- a timer is written over -/
theorem ownM_set {w : World} {B g cap n : Nat} {xs : List Tm} (h : OwnM w B (.slice (some ⟨g, 0, none⟩) n cap) xs) (hn : n = xs.length) (i : Nat) (hi : i < xs.length) (t : Tm) :
    OwnM (((w.setCell ⟨g, i * 3, none⟩ (.int .i64 t.id)).setCell ⟨g, i * 3 + 1, none⟩ (.int .u64 (t.at_ : Int))).setCell ⟨g, i * 3 + 2, none⟩ (.int .u64 (t.ord : Int))) B (.slice (some ⟨g, 0, none⟩) n cap) (xs.set i t) := by
  subst hn
  have h1 := (World.ownsRow.stored h (i * 3) (.int .i64 t.id)).1
  have h2 := (World.ownsRow.stored h1 (i * 3 + 1) (.int .u64 (t.at_ : Int))).1
  have h3 := (World.ownsRow.stored h2 (i * 3 + 2) (.int .u64 (t.ord : Int))).1
  unfold OwnM
  rw [List.length_set, flatM_set xs i t hi]
  exact h3
/-- a first part of a row -/
theorem ownM_pre {w : World} {B g cap n : Nat} {xs : List Tm} (h : OwnM w B (.slice (some ⟨g, 0, none⟩) xs.length cap) xs) (hn : n ≤ xs.length) : OwnM w B (.slice (some ⟨g, 0, none⟩) n cap) (xs.take n) := by
  have hl : (xs.take n).length = n := by rw [List.length_take]; omega
  refine ⟨flatM_len _, ?_⟩
  rcases h.2 with ⟨e, -⟩ | ⟨g', cap', cur, e, hB, hg, h1, h2, h3, h4⟩
  · cases e
  · cases e
    refine .inr ⟨_, _, cur, by rw [hl], hB, hg, by omega, h2, h3, ?_⟩
    rw [hl]
    have h5 : cur.toList.take (n * 3) = (cur.toList.take (xs.length * 3)).take (n * 3) := by rw [List.take_take]; congr 1; omega
    rw [h5, h4]
    apply List.ext_getElem?
    intro r
    by_cases hr : r < n * 3
    · rw [List.getElem?_take_of_lt hr]
      have h6 := flatM_get xs (r / 3) (r % 3) (by omega) (by omega)
      have h7 := flatM_get (xs.take n) (r / 3) (r % 3) (by omega) (by omega)
      rw [show r / 3 * 3 + r % 3 = r by omega] at h6 h7
      rw [h6, h7, List.getElem_take]
    · rw [List.getElem?_take_eq_none (by omega), List.getElem?_eq_none (by rw [flatM_len]; omega)]
theorem OwnM.cells3 {w : World} {B g cap n : Nat} {xs : List Tm} (h : OwnM w B (.slice (some ⟨g, 0, none⟩) n cap) xs) (hn : n = xs.length) (i : Nat) (hi : i < xs.length) :
    w.cell? ⟨g, i * 3, none⟩ = some (.int .i64 xs[i].id) ∧ w.cell? ⟨g, i * 3 + 1, none⟩ = some (.int .u64 (xs[i].at_ : Int)) ∧ w.cell? ⟨g, i * 3 + 2, none⟩ = some (.int .u64 (xs[i].ord : Int)) := by
  subst hn
  have h1 := fun r (hr : r < 3) => (World.ownsRow.cellAt h (i * 3 + r) (by omega)).trans (flatM_get xs i r hi hr)
  exact ⟨h1 0 (by decide), h1 1 (by decide), h1 2 (by decide)⟩
theorem OwnM.fz {w : World} {B g cap n : Nat} {xs : List Tm} (h : OwnM w B (.slice (some ⟨g, 0, none⟩) n cap) xs) (i : Nat) : w.frozen? ⟨g, i, none⟩ = false := by
  rcases h.2 with ⟨e, -⟩ | ⟨g', cap', cur, e, hB, hg, -⟩
  · cases e
  · cases e
    simp [World.frozen?, hg]
theorem OwnM.lt {w : World} {B g cap n : Nat} {xs : List Tm} (h : OwnM w B (.slice (some ⟨g, 0, none⟩) n cap) xs) : g < w.heap.size := by
  rcases h.2 with ⟨e, -⟩ | ⟨g', cap', cur, e, hB, hg, -⟩
  · cases e
  · cases e
    exact (Array.getElem?_eq_some_iff.1 hg).1
theorem OwnM.most {w : World} {B g cap n : Nat} {xs : List Tm} (h : OwnM w B (.slice (some ⟨g, 0, none⟩) n cap) xs) : n = xs.length ∧ n ≤ cap ∧ cap ≤ maxLen := by
  rcases h.2 with ⟨e, -⟩ | ⟨g', cap', cur, e, hB, hg, h1, h2, -⟩
  · cases e
  · cases e
    exact ⟨rfl, h1, h2⟩
set_option maxRecDepth 20000 in
set_option maxHeartbeats 1600000 in
theorem remove_c (p q s i j g cap : Nat) (hs : s < 64) (xs : List Tm) (hj : 0 < j) (hi : i ≤ j) (hn : j + 1 = xs.length) (w : World) (hown : OwnM w 0 (.slice (some ⟨g, 0, none⟩) (j + 1) cap) xs) (hne : g ≠ p) (hc : w.cell? ⟨p, q + s, none⟩ = some (.slice (some ⟨g, 0, none⟩) (j + 1) cap)) (hf : w.frozen? ⟨p, q + s, none⟩ = false) (hpl : p < w.heap.size) :
    Calls Tryd.prog 57 #[.pointer (some ⟨p, q, none⟩), .int .i64 (s : Int), .int .i64 (i : Int)] w fun e w' => e = .returned (.tuple #[tma (xs[j]'(by omega)), .bool (decide (i < j))]) ∧ ∃ u, OwnM u 0 (.slice (some ⟨g, 0, none⟩) (j + 1) cap) (xs.set i (xs[j]'(by omega))) ∧ w.grownBy u (some g) ∧
      Below w.heap.size (u.setCell ⟨p, q + s, none⟩ (.slice (some ⟨g, 0, none⟩) j cap)) w' := by
  have hjl : j < xs.length := by omega
  obtain ⟨a0, a1, a2⟩ := hown.cells3 hn j hjl
  obtain ⟨b0, b1, b2⟩ := hown.cells3 hn i (by omega)
  have f0 := hown.fz (i * 3)
  have f1 := hown.fz (i * 3 + 1)
  have f2 := hown.fz (i * 3 + 2)
  obtain ⟨-, hm1, hm2⟩ := hown.most
  have hm3 : j + 1 ≤ 9223372036854775807 := by simp only [maxLen] at hm2; omega
  have hgl := hown.lt
  have HO : Hid _ := hown
  have HN : Hid _ := hn
  generalize hT : xs[j] = t at *
  generalize xs[i] = t' at *
  clear hown hn
  have hsi : (s : Int) < 64 := by omega
  go_enter Tryd.func57, Tryd.ntmps57
  go_wp2
  go_region
  go_wp2
  go_region
  go_wp2
  refine bodyPost_ret (v := .tuple #[tma t, .bool (decide (i < j))]) (by simp [results, Tryd.results57, go_sem]) rfl ⟨rfl, _, ownM_set (xs := xs) HO.out HN.out i (by have := HN.out; omega) t, ?_, ?_⟩
  · exact ((gset1 _ _ _ _).trans' (gset1 _ _ _ _)).trans' (gset1 _ _ _ _)
  · exact ((Below.refl _ _).alloc (by simp) _).drew.drew
set_option maxRecDepth 20000 in
set_option maxHeartbeats 1600000 in
theorem remove_1 (p q x s g cap : Nat) (hs : s < 64) (hx : x < 18446744073709551616) (w : World) (hc : w.cell? ⟨p, q + s, none⟩ = some (.slice (some ⟨g, 0, none⟩) 1 cap)) (hf : w.frozen? ⟨p, q + s, none⟩ = false) (hc2 : w.cell? ⟨p, q + 64, none⟩ = some (.int .u64 (x : Int))) (hf2 : w.frozen? ⟨p, q + 64, none⟩ = false) (hpl : p < w.heap.size) :
    Calls Tryd.prog 57 #[.pointer (some ⟨p, q, none⟩), .int .i64 (s : Int), .int .i64 0] w fun e w' => e = .returned (.tuple #[tma ⟨0, 0, 0⟩, .bool false]) ∧ Below w.heap.size ((w.setCell ⟨p, q + s, none⟩ (.slice none 0 0)).setCell ⟨p, q + 64, none⟩ (.int .u64 (bitOff x s : Int))) w' := by
  have hsi : (s : Int) < 64 := by omega
  have HA : Hid (∀ (o : Obj) (i : Nat) (v : Value), w.cell? ⟨p, i, none⟩ = some v → (w.alloc o).cell? ⟨p, i, none⟩ = some v) := fun o i v h => ((al (Below.refl _ w) o).cell (p := ⟨p, i, none⟩) hpl).trans h
  have HAf : Hid (∀ (o : Obj) (i : Nat), w.frozen? ⟨p, i, none⟩ = false → (w.alloc o).frozen? ⟨p, i, none⟩ = false) := fun o i h => (World.frozen?_of_block ((al (Below.refl _ w) o).block p hpl)).trans h
  go_enter Tryd.func57, Tryd.ntmps57
  go_wp2_with (go_at_call 47; refine Calls.mono (empty_t p q x s hs hx _ _ (HA.out _ _ _ hc) (HAf.out _ _ hf) (HA.out _ _ _ hc2) (HAf.out _ _ hf2)) ?_; rintro e w2 ⟨rfl, n2, rfl⟩)
  rw [setCell_drewN, setCell_drewN, setCell_drewN]
  refine bodyPost_ret (v := .tuple #[tma ⟨0, 0, 0⟩, .bool false]) (by simp [results, Tryd.results57, go_sem]) rfl ⟨rfl, ?_⟩
  refine Below.trans ?_ (Drw.below ⟨_, rfl⟩ _)
  exact ((((Below.refl _ _).alloc (by simp) _).setCell (by simp) _).setCell (by simp) _).setCell (by simp) _
end Go.Proofs.YtnfikcegmicooabDoor
