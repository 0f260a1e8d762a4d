import Derived.Test.YtplncfahpdmcoaaGreatDoorFamS
import Derived.Test.YtplncfahpdmcoaaGreatDoorGLaw
import Derived.Test.YtplncfahpdmcoaaGreatDoorUG
namespace Go.Proofs.YtplncfahpdmcoaaGreatDoor
set_option linter.unusedVariables false
set_option linter.unusedSimpArgs false
open Go.RowKit
abbrev tR : TypeId := 43
abbrev tB1 : TypeId := 23
abbrev tR1 : TypeId := 24
def bRowS (v : Value) (l : List UInt8) : RowS := ⟨5, 1, v, l.length, bv l⟩
def rRowS (v : Value) (l : List Rg) : RowS := ⟨tR, 2, v, l.length, flatR l⟩
theorem bRowS_at {w : World} {B : Nat} {v : Value} {l : List UInt8} : (bRowS v l).at w B ↔ Own w B v l := Iff.rfl
theorem rRowS_at {w : World} {B : Nat} {v : Value} {l : List Rg} : (rRowS v l).at w B ↔ OwnR w B v l := Iff.rfl
/-- the texts and the lists, all in memory of their own -/
structure Pw (W w : World) (F : KeyS → RowS) (n m : Nat) (tv lv : Value) (TX : Nat → List UInt8) (LP : Nat → List Rg → Prop) : Prop where
  d : Fw W w F
  rt : F (4, 0) = ⟨tB1, 1, tv, n, (List.range n).map fun i => (F (0, i)).v⟩
  rl : F (4, 1) = ⟨tR1, 1, lv, m, (List.range m).map fun i => (F (1, i)).v⟩
  et : ∀ i, i < n → F (0, i) = bRowS (F (0, i)).v (TX i)
  el : ∀ i, i < m → ∃ out, F (1, i) = rRowS (F (1, i)).v out ∧ LP i out
variable {W w w' : World} {F : KeyS → RowS} {n m : Nat} {tv lv : Value} {TX : Nat → List UInt8} {LP : Nat → List Rg → Prop}
theorem Pw.below (h : Pw W w F n m tv lv TX LP) (hb : Below w.heap.size w w') : Pw W w' F n m tv lv TX LP := ⟨h.d.below hb, h.rt, h.rl, h.et, h.el⟩
theorem Pw.frame {F' : KeyS → RowS} (h : Pw W w F n m tv lv TX LP) (hd : Fw W w' F') (h0 : ∀ i, i < n → F' (0, i) = F (0, i)) (h1 : ∀ i, i < m → F' (1, i) = F (1, i)) (h4 : F' (4, 0) = F (4, 0)) (h5 : F' (4, 1) = F (4, 1)) : Pw W w' F' n m tv lv TX LP := by
  refine ⟨hd, ?_, ?_, fun i hi => ?_, fun i hi => ?_⟩
  · rw [h4, h.rt]
    congr 1
    exact List.map_congr_left fun i hi => by rw [h0 i (List.mem_range.1 hi)]
  · rw [h5, h.rl]
    congr 1
    exact List.map_congr_left fun i hi => by rw [h1 i (List.mem_range.1 hi)]
  · rw [h0 i hi]; exact h.et i hi
  · rw [h1 i hi]; exact h.el i hi
/-- a text of new memory, not among the texts yet -/
theorem Pw.newT (h : Pw W w F n m tv lv TX LP) (hb : Below w.heap.size w w') (i : Nat) (hi : n ≤ i) (v : Value) (l : List UInt8) (hr : Own w' w.heap.size v l) : Pw W w' (updR F (0, i) (bRowS v l)) n m tv lv TX LP :=
  h.frame (h.d.new hb (0, i) (bRowS v l) hr) (fun j hj => updR_other _ (by intro e; cases e; omega) _) (fun j _ => updR_other _ (by simp) _) (updR_other _ (by simp) _) (updR_other _ (by simp) _)
theorem Pw.newL (h : Pw W w F n m tv lv TX LP) (hb : Below w.heap.size w w') (i : Nat) (hi : m ≤ i) (v : Value) (l : List Rg) (hr : OwnR w' w.heap.size v l) : Pw W w' (updR F (1, i) (rRowS v l)) n m tv lv TX LP :=
  h.frame (h.d.new hb (1, i) (rRowS v l) hr) (fun j _ => updR_other _ (by simp) _) (fun j hj => updR_other _ (by intro e; cases e; omega) _) (updR_other _ (by simp) _) (updR_other _ (by simp) _)
/-- a text and a list of new memory -/
theorem Pw.newTL (h : Pw W w F n m tv lv TX LP) (hb : Below w.heap.size w w') (i : Nat) (hi : n ≤ i) (v : Value) (l : List UInt8) (hr : Own w' w.heap.size v l) (j : Nat) (hj : m ≤ j) (u : Value) (q : List Rg) (hq : OwnR w' w.heap.size u q) : Pw W w' (updR (updR F (0, i) (bRowS v l)) (1, j) (rRowS u q)) n m tv lv TX LP := by
  have h1 := h.newT hb i hi v l hr
  refine h1.frame (h1.d.put (1, j) (rRowS u q) (RowS.at_base (r := rRowS u q) hq h.d.bel.size) (fun x => ?_)) (fun j _ => updR_other _ (by simp) _) (fun k hk => updR_other _ (by intro e; cases e; omega) _) (updR_other _ (by simp) _) (updR_other _ (by simp) _)
  by_cases e : x = (0, i)
  · subst e
    rw [updR_same]
    exact RowS.apart (r := rRowS u q) (q := bRowS v l) (rRowS_at.2 hq) (bRowS_at.2 hr) (by show tR ≠ 5; decide)
  · rw [updR_other _ e]
    cases hv : u.ownBlock with
    | none => exact .inl hv
    | some g =>
      right
      intro e2
      have h3 := (h.d.fam.lt x g (by rw [← e2]; exact hv)).2
      have h4 := (World.ownsRow.lt hq g hv).1
      omega
/-- append to one of the two lists -/
theorem run_appL (B : Nat) (t ty e : TypeId) (z : Value) (ht : Tryz.prog.underlying t = some (.slice e)) (hinf : (Tryz.prog.info? e).map (fun i => (i.zero, i.size, i.bytes)) = some (some z, 1, 24)) (hz : z.cells.size = 1)
    (v : Value) (n : Nat) (xs : List Value) (hown : w.ownsRow B e 1 v n xs) (g c k : Nat) (us : List Value) (hk : k = us.length) (hc : ∀ j, j < us.length → w.cell? ⟨g, j, none⟩ = us[j]?) (h1 : ∀ u ∈ us, u.oneCell' = true) (hl : n + k ≤ 1000) (h0 : 0 < k) (hbase : B ≤ w.heap.size) :
    ∃ G cap w', (Builtin.append_ #[t, t] ty #[v, .slice (some ⟨g, 0, none⟩) k c]).run Tryz.prog w = .ok (.slice (some ⟨G, 0, none⟩) (n + k) cap) w' ∧ w'.ownsRow B e 1 (.slice (some ⟨G, 0, none⟩) (n + k) cap) (n + k) (xs ++ us) ∧ w.grownBy w' v.ownBlock ∧ (v.ownBlock = some G ∨ G = w.heap.size) := by
  obtain ⟨i, hi, hz0, hz1, hz2⟩ := info_parts hinf
  subst hk
  obtain ⟨G, cap, w', hr, h2, h3, h4, -⟩ := run_append_lies (P := Tryz.prog) w t ty B e i z 1 24 ht hi hz0 hz1 hz2 hz (by decide) v n xs hown ⟨g, 0, none⟩ us.length c us (by simp) (by
    intro j u hj
    rw [Go.WideShapes.add_plain, Nat.zero_add, hc j (List.getElem?_eq_some_iff.1 hj).1, hj]) h1 h0 (by simp only [maxLen]; omega) (by omega) hbase w.heap.size rfl
  exact ⟨G, cap, w', hr, h2, h3, h4⟩
theorem one_of_row {r : RowS} {w : World} {B : Nat} (h : r.at w B) : r.v.oneCell' = true := by
  obtain ⟨a, c, e, -⟩ := RowS.val h
  rw [e]; rfl
theorem Pw.listT {G l cap : Nat} {us : List Value} (h : Pw W w F n m tv lv TX LP) (hg : w.grownBy w' tv.ownBlock) (ho : w'.ownsRow W.heap.size tB1 1 (.slice (some ⟨G, 0, none⟩) l cap) l ((List.range n).map (fun i => (F (0, i)).v) ++ us)) (hlies : tv.ownBlock = some G ∨ G = w.heap.size) (hl : l = n + us.length) (hus : ∀ j, j < us.length → us[j]? = some (F (0, n + j)).v) (het : ∀ i, n ≤ i → i < l → F (0, i) = bRowS (F (0, i)).v (TX i)) :
    Pw W w' (updR F (4, 0) ⟨tB1, 1, .slice (some ⟨G, 0, none⟩) l cap, l, (List.range l).map fun i => (F (0, i)).v⟩) l m (.slice (some ⟨G, 0, none⟩) l cap) lv TX LP := by
  have e9 : (List.range n).map (fun i => (F (0, i)).v) ++ us = (List.range l).map fun i => (F (0, i)).v := by
    apply List.ext_getElem?
    intro j
    by_cases hj : j < n
    · rw [List.getElem?_append_left (by simpa using hj)]
      simp [hj, show j < l by omega]
    · by_cases hj2 : j < l
      · rw [List.getElem?_append_right (by simp; omega), List.length_map, List.length_range, hus (j - n) (by omega)]
        simp only [List.getElem?_map, List.getElem?_range hj2, Option.map_some]
        rw [show n + (j - n) = j by omega]
      · rw [List.getElem?_eq_none (by simp; omega), List.getElem?_eq_none (by simp; omega)]
  rw [e9] at ho
  have hb : (F (4, 0)).v = tv := by rw [h.rt]
  have hd := h.d.step (4, 0) (w' := w') (by rw [hb]; exact hg) ⟨tB1, 1, .slice (some ⟨G, 0, none⟩) l cap, l, (List.range l).map fun i => (F (0, i)).v⟩ ho (by
    rw [hb]
    rcases hlies with e | e
    · left; rw [e]; rfl
    · right; intro g e2; cases e2; rw [e]; exact Nat.le_refl _)
  refine ⟨hd, ?_, ?_, fun i hi => ?_, fun i hi => ?_⟩
  · rw [updR_same]
    congr 1
  · rw [updR_other _ (by simp), h.rl]
    congr 1
  · rw [updR_other _ (by simp)]
    by_cases q : i < n
    · exact h.et i q
    · exact het i (by omega) hi
  · rw [updR_other _ (by simp)]; exact h.el i hi
theorem Pw.listL {G l cap : Nat} {us : List Value} (h : Pw W w F n m tv lv TX LP) (hg : w.grownBy w' lv.ownBlock) (ho : w'.ownsRow W.heap.size tR1 1 (.slice (some ⟨G, 0, none⟩) l cap) l ((List.range m).map (fun i => (F (1, i)).v) ++ us)) (hlies : lv.ownBlock = some G ∨ G = w.heap.size) (hl : l = m + us.length) (hus : ∀ j, j < us.length → us[j]? = some (F (1, m + j)).v) (het : ∀ i, m ≤ i → i < l → ∃ out, F (1, i) = rRowS (F (1, i)).v out ∧ LP i out) :
    Pw W w' (updR F (4, 1) ⟨tR1, 1, .slice (some ⟨G, 0, none⟩) l cap, l, (List.range l).map fun i => (F (1, i)).v⟩) n l tv (.slice (some ⟨G, 0, none⟩) l cap) TX LP := by
  have e9 : (List.range m).map (fun i => (F (1, i)).v) ++ us = (List.range l).map fun i => (F (1, i)).v := by
    apply List.ext_getElem?
    intro j
    by_cases hj : j < m
    · rw [List.getElem?_append_left (by simpa using hj)]
      simp [hj, show j < l by omega]
    · by_cases hj2 : j < l
      · rw [List.getElem?_append_right (by simp; omega), List.length_map, List.length_range, hus (j - m) (by omega)]
        simp only [List.getElem?_map, List.getElem?_range hj2, Option.map_some]
        rw [show m + (j - m) = j by omega]
      · rw [List.getElem?_eq_none (by simp; omega), List.getElem?_eq_none (by simp; omega)]
  rw [e9] at ho
  have hb : (F (4, 1)).v = lv := by rw [h.rl]
  have hd := h.d.step (4, 1) (w' := w') (by rw [hb]; exact hg) ⟨tR1, 1, .slice (some ⟨G, 0, none⟩) l cap, l, (List.range l).map fun i => (F (1, i)).v⟩ ho (by
    rw [hb]
    rcases hlies with e | e
    · left; rw [e]; rfl
    · right; intro g e2; cases e2; rw [e]; exact Nat.le_refl _)
  refine ⟨hd, ?_, ?_, fun i hi => ?_, fun i hi => ?_⟩
  · rw [updR_other _ (by simp), h.rt]
    congr 1
  · rw [updR_same]
    congr 1
  · rw [updR_other _ (by simp)]; exact h.et i hi
  · rw [updR_other _ (by simp)]
    by_cases q : i < m
    · exact h.el i q
    · exact het i (by omega) hi
end Go.Proofs.YtplncfahpdmcoaaGreatDoor
namespace Go.Proofs.YtplncfahpdmcoaaGreatDoor
set_option linter.unusedVariables false
set_option linter.unusedSimpArgs false
open Go.RowKit
def I64 (n : Int) : Prop := -9223372036854775808 ≤ n ∧ n ≤ 9223372036854775807
def RI (l : List Rg) : Prop := ∀ x ∈ l, I64 x.1 ∧ I64 x.2
theorem max_if (a b : Int) : (if a < b then b else a) = max a b := by split <;> omega
def NextOut (xs : List Rg) (at_ : Int) (w : World) (e : Ending) (w' : World) : Prop := ∃ (f : Int) (ok : Bool), e = .returned (.tuple #[.int .i64 f, .bool ok]) ∧ NextS xs at_ f ok ∧ Below w.heap.size w w'
section
set_option maxRecDepth 20000
set_option maxHeartbeats 1600000
theorem next_t (ao : Option Addr) (n cap : Nat) (xs : List Rg) (at_ : Int) (w : World) (hn : n = xs.length) (hx : RdR w ao xs) (hl : n ≤ 1099511627776) :
    Calls Tryz.prog 37 #[.slice ao n cap, .int .i64 at_] w fun e w' => NextOut xs at_ w e w' := by
  have HN : Hid _ := hn
  clear hn
  go_enter Tryz.func37, Tryz.ntmps37
  go_wp2
  go_loopw [6, 7, 8, 9] (fun fd le j _ wr => ∃ (k : Nat) (f : Int) (ok : Bool), k ≤ n ∧ fd = .bool ok ∧ le = .int .i64 f ∧ j = .int .i64 (k : Int) ∧ NextS (xs.take k) at_ f ok ∧ Below w.heap.size w wr) (fun _ _ j _ _ => n - (intOf j).toNat)
  case atStart => exact ⟨0, 0, false, Nat.zero_le _, rfl, rfl, rfl, NextS.nil _ _, Below.refl _ _⟩
  case round =>
    obtain ⟨k, f, ok, hk, rfl, rfl, rfl, hns, hbw⟩ := hrel
    have hkw : IntKind.i64.wrap ((k : Int) + 1) = ((k + 1 : Nat) : Int) := by rw [IntKind.wrap_i64]; omega
    have HNS : Hid _ := hns
    have HBW : Hid _ := hbw
    clear hns
    by_cases hlt : k < n
    · have hk1 : k < xs.length := by rw [← HN.out]; exact hlt
      have hlti : (k : Int) < (n : Int) := by omega
      have hk0 : (0 : Int) ≤ (k : Int) := by omega
      obtain ⟨b, o, rfl, -, -⟩ := hx k hk1
      have hr : ∀ u, Below w.heap.size w u → u.cell? ⟨b, o + k * 2, none⟩ = some (.int .i64 xs[k].1) ∧ u.cell? ⟨b, o + k * 2 + 1, none⟩ = some (.int .i64 xs[k].2) := fun u hu => by
        obtain ⟨b', o', e9, h1, h2⟩ := (hx.below hu) k hk1
        cases e9
        exact ⟨h1, h2⟩
      obtain ⟨x, hx9⟩ : ∃ x : Rg, x = xs[k] := ⟨_, rfl⟩
      rw [← hx9] at hr
      have HTK : Hid (xs.take (k + 1) = xs.take k ++ [x]) := by unfold Hid; rw [List.take_succ_eq_append_getElem hk1, hx9]
      obtain ⟨a1, a2⟩ := x
      have hc1 : ∀ u, Below w.heap.size w u → u.cell? ⟨b, o + k * 2, none⟩ = some (.int .i64 a1) := fun u hu => (hr u hu).1
      have hc2 : ∀ u, Below w.heap.size w u → u.cell? ⟨b, o + k * 2 + 1, none⟩ = some (.int .i64 a2) := fun u hu => (hr u hu).2
      clear hx9 hr
      by_cases h1 : a2 ≤ a1
      · have HNX : Hid (NextS (xs.take (k + 1)) at_ f ok) := by unfold Hid; rw [HTK.out]; exact NextS.skip HNS.out (.inl h1)
        have h1b : decide (a1 ≥ a2) = true := by simpa using h1
        go_wp2_with fail
        refine wp_region_noPanic ?_
        refine wp_region_held_drew (S := (fun u => Below w.heap.size w u)) (by kernel_rfl) (by first | exact hbw.drew | assumption) (fun hHeld => ?_)
        refine take_at (i := 0) 16 (v := ?_) rfl rfl (by kernel_rfl) (by kernel_rfl) (by kernel_rfl) (fun _ _ _ h => h) (by rfl) ?_ hHeld ?_
        rotate_left
        · (intro w hSw; (try dsimp only at hSw); go_simp; try with_reducible rfl)
        simp only [Act.put, List.setIfInBounds_toArray, List.set_cons_zero, List.set_cons_succ]
        refine take_at (i := 1) 17 (v := ?_) rfl rfl (by kernel_rfl) (by kernel_rfl) (by kernel_rfl) (fun _ _ _ h => h) (by rfl) ?_ hHeld ?_
        rotate_left
        · (intro w hSw; (try dsimp only at hSw); go_simp; try with_reducible rfl)
        simp only [Act.put, List.setIfInBounds_toArray, List.set_cons_zero, List.set_cons_succ]
        refine take_at (i := 2) 18 (v := ?_) rfl rfl (by kernel_rfl) (by kernel_rfl) (by kernel_rfl) (fun _ _ _ h => h) (by rfl) ?_ hHeld ?_
        rotate_left
        · (intro w hSw; (try dsimp only at hSw); go_simp; try with_reducible rfl)
        simp only [Act.put, List.setIfInBounds_toArray, List.set_cons_zero, List.set_cons_succ]
        refine take_at (i := 3) 19 (v := ?_) rfl rfl (by kernel_rfl) (by kernel_rfl) (by kernel_rfl) (fun _ _ _ h => h) (by rfl) ?_ hHeld ?_
        rotate_left
        · (intro w hSw; (try dsimp only at hSw); go_simp; try with_reducible rfl)
        simp only [Act.put, List.setIfInBounds_toArray, List.set_cons_zero, List.set_cons_succ]
        refine take_at (i := 4) 20 (v := ?_) rfl rfl (by kernel_rfl) (by kernel_rfl) (by kernel_rfl) (fun _ _ _ h => h) (by rfl) ?_ hHeld ?_
        rotate_left
        · (intro w hSw; (try dsimp only at hSw); go_simp; try with_reducible rfl)
        simp only [Act.put, List.setIfInBounds_toArray, List.set_cons_zero, List.set_cons_succ]
        refine take_at (i := 5) 21 (v := ?_) rfl rfl (by kernel_rfl) (by kernel_rfl) (by kernel_rfl) (fun _ _ _ h => h) (by rfl) ?_ hHeld ?_
        rotate_left
        · (intro w hSw; (try dsimp only at hSw); go_simp; try with_reducible rfl)
        simp only [Act.put, List.setIfInBounds_toArray, List.set_cons_zero, List.set_cons_succ]
        refine take_at (i := 6) 22 (v := ?_) rfl rfl (by kernel_rfl) (by kernel_rfl) (by kernel_rfl) (fun _ _ _ h => h) (by rfl) ?_ hHeld ?_
        rotate_left
        · (intro w hSw; (try dsimp only at hSw); go_simp; try with_reducible rfl)
        simp only [Act.put, List.setIfInBounds_toArray, List.set_cons_zero, List.set_cons_succ]
        refine take_at (i := 7) 23 (v := ?_) rfl rfl (by kernel_rfl) (by kernel_rfl) (by kernel_rfl) (fun _ _ _ h => h) (by rfl) ?_ hHeld ?_
        rotate_left
        · (intro w hSw; (try dsimp only at hSw); go_simp; try with_reducible rfl)
        simp only [Act.put, List.setIfInBounds_toArray, List.set_cons_zero, List.set_cons_succ]
        refine take_at (i := 8) 24 (v := ?_) rfl rfl (by kernel_rfl) (by kernel_rfl) (by kernel_rfl) (fun _ _ _ h => h) (by rfl) ?_ hHeld ?_
        rotate_left
        · (intro w hSw; (try dsimp only at hSw); go_simp; try with_reducible rfl)
        simp only [Act.put, List.setIfInBounds_toArray, List.set_cons_zero, List.set_cons_succ]
        refine take_at (i := 9) 25 (v := ?_) rfl rfl (by kernel_rfl) (by kernel_rfl) (by kernel_rfl) (fun _ _ _ h => h) (by rfl) ?_ hHeld ?_
        rotate_left
        · (intro w hSw; (try dsimp only at hSw); go_simp; try with_reducible rfl)
        simp only [Act.put, List.setIfInBounds_toArray, List.set_cons_zero, List.set_cons_succ]
        refine take_at (i := 10) 26 (v := ?_) rfl rfl (by kernel_rfl) (by kernel_rfl) (by kernel_rfl) (fun _ _ _ h => h) (by rfl) ?_ hHeld ?_
        rotate_left
        · (intro w hSw; (try dsimp only at hSw); go_simp; try with_reducible rfl)
        simp only [Act.put, List.setIfInBounds_toArray, List.set_cons_zero, List.set_cons_succ]
        refine take_at (i := 11) 27 (v := ?_) rfl rfl (by kernel_rfl) (by kernel_rfl) (by kernel_rfl) (fun _ _ _ h => h) (by rfl) ?_ hHeld ?_
        rotate_left
        · (intro w hSw; (try dsimp only at hSw); go_simp; try with_reducible rfl)
        simp only [Act.put, List.setIfInBounds_toArray, List.set_cons_zero, List.set_cons_succ]
        refine skip_at (i := 12) 28 rfl rfl (by kernel_rfl) (by kernel_rfl) (by kernel_rfl) (fun _ _ _ h => h) (by rfl) hHeld ?_
        simp only [Act.put, List.setIfInBounds_toArray, List.set_cons_zero, List.set_cons_succ]
        refine skip_at (i := 13) 29 rfl rfl (by kernel_rfl) (by kernel_rfl) (by kernel_rfl) (fun _ _ _ h => h) (by rfl) hHeld ?_
        simp only [Act.put, List.setIfInBounds_toArray, List.set_cons_zero, List.set_cons_succ]
        refine skip_at (i := 14) 30 rfl rfl (by kernel_rfl) (by kernel_rfl) (by kernel_rfl) (fun _ _ _ h => h) (by rfl) hHeld ?_
        simp only [Act.put, List.setIfInBounds_toArray, List.set_cons_zero, List.set_cons_succ]
        refine skip_at (i := 15) 31 rfl rfl (by kernel_rfl) (by kernel_rfl) (by kernel_rfl) (fun _ _ _ h => h) (by rfl) hHeld ?_
        simp only [Act.put, List.setIfInBounds_toArray, List.set_cons_zero, List.set_cons_succ]
        refine skip_at (i := 16) 32 rfl rfl (by kernel_rfl) (by kernel_rfl) (by kernel_rfl) (fun _ _ _ h => h) (by rfl) hHeld ?_
        simp only [Act.put, List.setIfInBounds_toArray, List.set_cons_zero, List.set_cons_succ]
        refine skip_at (i := 17) 33 rfl rfl (by kernel_rfl) (by kernel_rfl) (by kernel_rfl) (fun _ _ _ h => h) (by rfl) hHeld ?_
        simp only [Act.put, List.setIfInBounds_toArray, List.set_cons_zero, List.set_cons_succ]
        refine skip_at (i := 18) 34 rfl rfl (by kernel_rfl) (by kernel_rfl) (by kernel_rfl) (fun _ _ _ h => h) (by rfl) hHeld ?_
        simp only [Act.put, List.setIfInBounds_toArray, List.set_cons_zero, List.set_cons_succ]
        refine take_at (i := 19) 35 (v := ?_) rfl rfl (by kernel_rfl) (by kernel_rfl) (by kernel_rfl) (fun _ _ _ h => h) (by rfl) ?_ hHeld ?_
        rotate_left
        · (intro w hSw; (try dsimp only at hSw); go_simp; try with_reducible rfl)
        simp only [Act.put, List.setIfInBounds_toArray, List.set_cons_zero, List.set_cons_succ]
        refine wpAnyH_done (by kernel_rfl) ?_ _
        refine NoPanic.normal ?_
        go_wp2
        go_roundw
        case rel => exact ⟨k + 1, f, ok, by omega, rfl, rfl, by go_num, HNX.out, HBW.out.drew⟩
        case measure => simp [intOf]; omega
      · have hd : decide (a2 ≤ a1) = false := by simpa using h1
        by_cases h2 : a2 ≤ at_
        · have HNX : Hid (NextS (xs.take (k + 1)) at_ f ok) := by unfold Hid; rw [HTK.out]; exact NextS.skip HNS.out (.inr h2)
          have h1b : a1 < a2 := by omega
          go_wp2_with fail
          refine wp_region_noPanic ?_
          refine wp_region_held_drew (S := (fun u => Below w.heap.size w u)) (by kernel_rfl) (by first | exact hbw.drew | assumption) (fun hHeld => ?_)
          refine take_at (i := 0) 16 (v := ?_) rfl rfl (by kernel_rfl) (by kernel_rfl) (by kernel_rfl) (fun _ _ _ h => h) (by rfl) ?_ hHeld ?_
          rotate_left
          · (intro w hSw; (try dsimp only at hSw); go_simp; try with_reducible rfl)
          simp only [Act.put, List.setIfInBounds_toArray, List.set_cons_zero, List.set_cons_succ]
          refine take_at (i := 1) 17 (v := ?_) rfl rfl (by kernel_rfl) (by kernel_rfl) (by kernel_rfl) (fun _ _ _ h => h) (by rfl) ?_ hHeld ?_
          rotate_left
          · (intro w hSw; (try dsimp only at hSw); go_simp; try with_reducible rfl)
          simp only [Act.put, List.setIfInBounds_toArray, List.set_cons_zero, List.set_cons_succ]
          refine take_at (i := 2) 18 (v := ?_) rfl rfl (by kernel_rfl) (by kernel_rfl) (by kernel_rfl) (fun _ _ _ h => h) (by rfl) ?_ hHeld ?_
          rotate_left
          · (intro w hSw; (try dsimp only at hSw); go_simp; try with_reducible rfl)
          simp only [Act.put, List.setIfInBounds_toArray, List.set_cons_zero, List.set_cons_succ]
          refine take_at (i := 3) 19 (v := ?_) rfl rfl (by kernel_rfl) (by kernel_rfl) (by kernel_rfl) (fun _ _ _ h => h) (by rfl) ?_ hHeld ?_
          rotate_left
          · (intro w hSw; (try dsimp only at hSw); go_simp; try with_reducible rfl)
          simp only [Act.put, List.setIfInBounds_toArray, List.set_cons_zero, List.set_cons_succ]
          refine take_at (i := 4) 20 (v := ?_) rfl rfl (by kernel_rfl) (by kernel_rfl) (by kernel_rfl) (fun _ _ _ h => h) (by rfl) ?_ hHeld ?_
          rotate_left
          · (intro w hSw; (try dsimp only at hSw); go_simp; try with_reducible rfl)
          simp only [Act.put, List.setIfInBounds_toArray, List.set_cons_zero, List.set_cons_succ]
          refine take_at (i := 5) 21 (v := ?_) rfl rfl (by kernel_rfl) (by kernel_rfl) (by kernel_rfl) (fun _ _ _ h => h) (by rfl) ?_ hHeld ?_
          rotate_left
          · (intro w hSw; (try dsimp only at hSw); go_simp; try with_reducible rfl)
          simp only [Act.put, List.setIfInBounds_toArray, List.set_cons_zero, List.set_cons_succ]
          refine take_at (i := 6) 22 (v := ?_) rfl rfl (by kernel_rfl) (by kernel_rfl) (by kernel_rfl) (fun _ _ _ h => h) (by rfl) ?_ hHeld ?_
          rotate_left
          · (intro w hSw; (try dsimp only at hSw); go_simp; try with_reducible rfl)
          simp only [Act.put, List.setIfInBounds_toArray, List.set_cons_zero, List.set_cons_succ]
          refine take_at (i := 7) 23 (v := ?_) rfl rfl (by kernel_rfl) (by kernel_rfl) (by kernel_rfl) (fun _ _ _ h => h) (by rfl) ?_ hHeld ?_
          rotate_left
          · (intro w hSw; (try dsimp only at hSw); go_simp; try with_reducible rfl)
          simp only [Act.put, List.setIfInBounds_toArray, List.set_cons_zero, List.set_cons_succ]
          refine take_at (i := 8) 24 (v := ?_) rfl rfl (by kernel_rfl) (by kernel_rfl) (by kernel_rfl) (fun _ _ _ h => h) (by rfl) ?_ hHeld ?_
          rotate_left
          · (intro w hSw; (try dsimp only at hSw); go_simp; try with_reducible rfl)
          simp only [Act.put, List.setIfInBounds_toArray, List.set_cons_zero, List.set_cons_succ]
          refine take_at (i := 9) 25 (v := ?_) rfl rfl (by kernel_rfl) (by kernel_rfl) (by kernel_rfl) (fun _ _ _ h => h) (by rfl) ?_ hHeld ?_
          rotate_left
          · (intro w hSw; (try dsimp only at hSw); go_simp; try with_reducible rfl)
          simp only [Act.put, List.setIfInBounds_toArray, List.set_cons_zero, List.set_cons_succ]
          refine take_at (i := 10) 26 (v := ?_) rfl rfl (by kernel_rfl) (by kernel_rfl) (by kernel_rfl) (fun _ _ _ h => h) (by rfl) ?_ hHeld ?_
          rotate_left
          · (intro w hSw; (try dsimp only at hSw); go_simp; try with_reducible rfl)
          simp only [Act.put, List.setIfInBounds_toArray, List.set_cons_zero, List.set_cons_succ]
          refine take_at (i := 11) 27 (v := ?_) rfl rfl (by kernel_rfl) (by kernel_rfl) (by kernel_rfl) (fun _ _ _ h => h) (by rfl) ?_ hHeld ?_
          rotate_left
          · (intro w hSw; (try dsimp only at hSw); go_simp; try with_reducible rfl)
          simp only [Act.put, List.setIfInBounds_toArray, List.set_cons_zero, List.set_cons_succ]
          refine take_at (i := 12) 28 (v := ?_) rfl rfl (by kernel_rfl) (by kernel_rfl) (by kernel_rfl) (fun _ _ _ h => h) (by rfl) ?_ hHeld ?_
          rotate_left
          · (intro w hSw; (try dsimp only at hSw); go_simp; try with_reducible rfl)
          simp only [Act.put, List.setIfInBounds_toArray, List.set_cons_zero, List.set_cons_succ]
          refine take_at (i := 13) 29 (v := ?_) rfl rfl (by kernel_rfl) (by kernel_rfl) (by kernel_rfl) (fun _ _ _ h => h) (by rfl) ?_ hHeld ?_
          rotate_left
          · (intro w hSw; (try dsimp only at hSw); go_simp; try with_reducible rfl)
          simp only [Act.put, List.setIfInBounds_toArray, List.set_cons_zero, List.set_cons_succ]
          refine take_at (i := 14) 30 (v := ?_) rfl rfl (by kernel_rfl) (by kernel_rfl) (by kernel_rfl) (fun _ _ _ h => h) (by rfl) ?_ hHeld ?_
          rotate_left
          · (intro w hSw; (try dsimp only at hSw); go_simp; try with_reducible rfl)
          simp only [Act.put, List.setIfInBounds_toArray, List.set_cons_zero, List.set_cons_succ]
          refine take_at (i := 15) 31 (v := ?_) rfl rfl (by kernel_rfl) (by kernel_rfl) (by kernel_rfl) (fun _ _ _ h => h) (by rfl) ?_ hHeld ?_
          rotate_left
          · (intro w hSw; (try dsimp only at hSw); go_simp; try with_reducible rfl)
          simp only [Act.put, List.setIfInBounds_toArray, List.set_cons_zero, List.set_cons_succ]
          refine take_at (i := 16) 32 (v := ?_) rfl rfl (by kernel_rfl) (by kernel_rfl) (by kernel_rfl) (fun _ _ _ h => h) (by rfl) ?_ hHeld ?_
          rotate_left
          · (intro w hSw; (try dsimp only at hSw); go_simp; try with_reducible rfl)
          simp only [Act.put, List.setIfInBounds_toArray, List.set_cons_zero, List.set_cons_succ]
          refine take_at (i := 17) 33 (v := ?_) rfl rfl (by kernel_rfl) (by kernel_rfl) (by kernel_rfl) (fun _ _ _ h => h) (by rfl) ?_ hHeld ?_
          rotate_left
          · (intro w hSw; (try dsimp only at hSw); go_simp; try with_reducible rfl)
          simp only [Act.put, List.setIfInBounds_toArray, List.set_cons_zero, List.set_cons_succ]
          refine take_at (i := 18) 34 (v := ?_) rfl rfl (by kernel_rfl) (by kernel_rfl) (by kernel_rfl) (fun _ _ _ h => h) (by rfl) ?_ hHeld ?_
          rotate_left
          · (intro w hSw; (try dsimp only at hSw); go_simp; try with_reducible rfl)
          simp only [Act.put, List.setIfInBounds_toArray, List.set_cons_zero, List.set_cons_succ]
          refine take_at (i := 19) 35 (v := ?_) rfl rfl (by kernel_rfl) (by kernel_rfl) (by kernel_rfl) (fun _ _ _ h => h) (by rfl) ?_ hHeld ?_
          rotate_left
          · (intro w hSw; (try dsimp only at hSw); go_simp; try with_reducible rfl)
          simp only [Act.put, List.setIfInBounds_toArray, List.set_cons_zero, List.set_cons_succ]
          refine wpAnyH_done (by kernel_rfl) ?_ _
          refine NoPanic.normal ?_
          go_wp2
          go_roundw
          case rel => exact ⟨k + 1, f, ok, by omega, rfl, rfl, by go_num, HNX.out, HBW.out.drew⟩
          case measure => simp [intOf]; omega
        · have hd2 : decide (a2 ≤ at_) = false := by simpa using h2
          have h1b : a1 < a2 := by omega
          have h2b : at_ < a2 := by omega
          have hc1w : wr.drew.cell? ⟨b, o + k * 2, none⟩ = some (.int .i64 a1) := hc1 _ hbw.drew
          cases ok
          · have HNX : Hid (NextS (xs.take (k + 1)) at_ (max a1 at_) true) := by unfold Hid; rw [HTK.out]; exact NextS.take HNS.out h1b h2b (.inl rfl)
            go_wp2_with fail
            refine wp_region_noPanic ?_
            refine wp_region_held_drew (S := (fun u => Below w.heap.size w u)) (by kernel_rfl) (by first | exact hbw.drew | assumption) (fun hHeld => ?_)
            refine take_at (i := 0) 16 (v := ?_) rfl rfl (by kernel_rfl) (by kernel_rfl) (by kernel_rfl) (fun _ _ _ h => h) (by rfl) ?_ hHeld ?_
            rotate_left
            · (intro w hSw; (try dsimp only at hSw); go_simp; try with_reducible rfl)
            simp only [Act.put, List.setIfInBounds_toArray, List.set_cons_zero, List.set_cons_succ]
            refine take_at (i := 1) 17 (v := ?_) rfl rfl (by kernel_rfl) (by kernel_rfl) (by kernel_rfl) (fun _ _ _ h => h) (by rfl) ?_ hHeld ?_
            rotate_left
            · (intro w hSw; (try dsimp only at hSw); go_simp; try with_reducible rfl)
            simp only [Act.put, List.setIfInBounds_toArray, List.set_cons_zero, List.set_cons_succ]
            refine take_at (i := 2) 18 (v := ?_) rfl rfl (by kernel_rfl) (by kernel_rfl) (by kernel_rfl) (fun _ _ _ h => h) (by rfl) ?_ hHeld ?_
            rotate_left
            · (intro w hSw; (try dsimp only at hSw); go_simp; try with_reducible rfl)
            simp only [Act.put, List.setIfInBounds_toArray, List.set_cons_zero, List.set_cons_succ]
            refine take_at (i := 3) 19 (v := ?_) rfl rfl (by kernel_rfl) (by kernel_rfl) (by kernel_rfl) (fun _ _ _ h => h) (by rfl) ?_ hHeld ?_
            rotate_left
            · (intro w hSw; (try dsimp only at hSw); go_simp; try with_reducible rfl)
            simp only [Act.put, List.setIfInBounds_toArray, List.set_cons_zero, List.set_cons_succ]
            refine take_at (i := 4) 20 (v := ?_) rfl rfl (by kernel_rfl) (by kernel_rfl) (by kernel_rfl) (fun _ _ _ h => h) (by rfl) ?_ hHeld ?_
            rotate_left
            · (intro w hSw; (try dsimp only at hSw); go_simp; try with_reducible rfl)
            simp only [Act.put, List.setIfInBounds_toArray, List.set_cons_zero, List.set_cons_succ]
            refine take_at (i := 5) 21 (v := ?_) rfl rfl (by kernel_rfl) (by kernel_rfl) (by kernel_rfl) (fun _ _ _ h => h) (by rfl) ?_ hHeld ?_
            rotate_left
            · (intro w hSw; (try dsimp only at hSw); go_simp; try with_reducible rfl)
            simp only [Act.put, List.setIfInBounds_toArray, List.set_cons_zero, List.set_cons_succ]
            refine take_at (i := 6) 22 (v := ?_) rfl rfl (by kernel_rfl) (by kernel_rfl) (by kernel_rfl) (fun _ _ _ h => h) (by rfl) ?_ hHeld ?_
            rotate_left
            · (intro w hSw; (try dsimp only at hSw); go_simp; try with_reducible rfl)
            simp only [Act.put, List.setIfInBounds_toArray, List.set_cons_zero, List.set_cons_succ]
            refine take_at (i := 7) 23 (v := ?_) rfl rfl (by kernel_rfl) (by kernel_rfl) (by kernel_rfl) (fun _ _ _ h => h) (by rfl) ?_ hHeld ?_
            rotate_left
            · (intro w hSw; (try dsimp only at hSw); go_simp; try with_reducible rfl)
            simp only [Act.put, List.setIfInBounds_toArray, List.set_cons_zero, List.set_cons_succ]
            refine take_at (i := 8) 24 (v := ?_) rfl rfl (by kernel_rfl) (by kernel_rfl) (by kernel_rfl) (fun _ _ _ h => h) (by rfl) ?_ hHeld ?_
            rotate_left
            · (intro w hSw; (try dsimp only at hSw); go_simp; try with_reducible rfl)
            simp only [Act.put, List.setIfInBounds_toArray, List.set_cons_zero, List.set_cons_succ]
            refine take_at (i := 9) 25 (v := ?_) rfl rfl (by kernel_rfl) (by kernel_rfl) (by kernel_rfl) (fun _ _ _ h => h) (by rfl) ?_ hHeld ?_
            rotate_left
            · (intro w hSw; (try dsimp only at hSw); go_simp; try with_reducible rfl)
            simp only [Act.put, List.setIfInBounds_toArray, List.set_cons_zero, List.set_cons_succ]
            refine take_at (i := 10) 26 (v := ?_) rfl rfl (by kernel_rfl) (by kernel_rfl) (by kernel_rfl) (fun _ _ _ h => h) (by rfl) ?_ hHeld ?_
            rotate_left
            · (intro w hSw; (try dsimp only at hSw); go_simp; try with_reducible rfl)
            simp only [Act.put, List.setIfInBounds_toArray, List.set_cons_zero, List.set_cons_succ]
            refine take_at (i := 11) 27 (v := ?_) rfl rfl (by kernel_rfl) (by kernel_rfl) (by kernel_rfl) (fun _ _ _ h => h) (by rfl) ?_ hHeld ?_
            rotate_left
            · (intro w hSw; (try dsimp only at hSw); go_simp; try with_reducible rfl)
            simp only [Act.put, List.setIfInBounds_toArray, List.set_cons_zero, List.set_cons_succ]
            refine take_at (i := 12) 28 (v := ?_) rfl rfl (by kernel_rfl) (by kernel_rfl) (by kernel_rfl) (fun _ _ _ h => h) (by rfl) ?_ hHeld ?_
            rotate_left
            · (intro w hSw; (try dsimp only at hSw); go_simp; try with_reducible rfl)
            simp only [Act.put, List.setIfInBounds_toArray, List.set_cons_zero, List.set_cons_succ]
            refine take_at (i := 13) 29 (v := ?_) rfl rfl (by kernel_rfl) (by kernel_rfl) (by kernel_rfl) (fun _ _ _ h => h) (by rfl) ?_ hHeld ?_
            rotate_left
            · (intro w hSw; (try dsimp only at hSw); go_simp; try with_reducible rfl)
            simp only [Act.put, List.setIfInBounds_toArray, List.set_cons_zero, List.set_cons_succ]
            refine take_at (i := 14) 30 (v := ?_) rfl rfl (by kernel_rfl) (by kernel_rfl) (by kernel_rfl) (fun _ _ _ h => h) (by rfl) ?_ hHeld ?_
            rotate_left
            · (intro w hSw; (try dsimp only at hSw); go_simp; try with_reducible rfl)
            simp only [Act.put, List.setIfInBounds_toArray, List.set_cons_zero, List.set_cons_succ]
            refine take_at (i := 15) 31 (v := ?_) rfl rfl (by kernel_rfl) (by kernel_rfl) (by kernel_rfl) (fun _ _ _ h => h) (by rfl) ?_ hHeld ?_
            rotate_left
            · (intro w hSw; (try dsimp only at hSw); go_simp; try with_reducible rfl)
            simp only [Act.put, List.setIfInBounds_toArray, List.set_cons_zero, List.set_cons_succ]
            refine take_at (i := 16) 32 (v := ?_) rfl rfl (by kernel_rfl) (by kernel_rfl) (by kernel_rfl) (fun _ _ _ h => h) (by rfl) ?_ hHeld ?_
            rotate_left
            · (intro w hSw; (try dsimp only at hSw); go_simp; try with_reducible rfl)
            simp only [Act.put, List.setIfInBounds_toArray, List.set_cons_zero, List.set_cons_succ]
            refine take_at (i := 17) 33 (v := ?_) rfl rfl (by kernel_rfl) (by kernel_rfl) (by kernel_rfl) (fun _ _ _ h => h) (by rfl) ?_ hHeld ?_
            rotate_left
            · (intro w hSw; (try dsimp only at hSw); go_simp; try with_reducible rfl)
            simp only [Act.put, List.setIfInBounds_toArray, List.set_cons_zero, List.set_cons_succ]
            refine take_at (i := 18) 34 (v := ?_) rfl rfl (by kernel_rfl) (by kernel_rfl) (by kernel_rfl) (fun _ _ _ h => h) (by rfl) ?_ hHeld ?_
            rotate_left
            · (intro w hSw; (try dsimp only at hSw); go_simp; try with_reducible rfl)
            simp only [Act.put, List.setIfInBounds_toArray, List.set_cons_zero, List.set_cons_succ]
            refine take_at (i := 19) 35 (v := ?_) rfl rfl (by kernel_rfl) (by kernel_rfl) (by kernel_rfl) (fun _ _ _ h => h) (by rfl) ?_ hHeld ?_
            rotate_left
            · (intro w hSw; (try dsimp only at hSw); go_simp; try with_reducible rfl)
            simp only [Act.put, List.setIfInBounds_toArray, List.set_cons_zero, List.set_cons_succ]
            refine wpAnyH_done (by kernel_rfl) ?_ _
            refine NoPanic.normal ?_
            go_wp2
            go_roundw
            case rel => exact ⟨k + 1, max a1 at_, true, by omega, rfl, by rw [← max_if], by go_num, HNX.out, HBW.out.drew⟩
            case measure => simp [intOf]; omega
          · by_cases h3 : max a1 at_ < f
            · have HNX : Hid (NextS (xs.take (k + 1)) at_ (max a1 at_) true) := by unfold Hid; rw [HTK.out]; exact NextS.take HNS.out h1b h2b (.inr h3)
              go_wp2_with fail
              refine wp_region_noPanic ?_
              refine wp_region_held_drew (S := (fun u => Below w.heap.size w u)) (by kernel_rfl) (by first | exact hbw.drew | assumption) (fun hHeld => ?_)
              refine take_at (i := 0) 16 (v := ?_) rfl rfl (by kernel_rfl) (by kernel_rfl) (by kernel_rfl) (fun _ _ _ h => h) (by rfl) ?_ hHeld ?_
              rotate_left
              · (intro w hSw; (try dsimp only at hSw); go_simp; try with_reducible rfl)
              simp only [Act.put, List.setIfInBounds_toArray, List.set_cons_zero, List.set_cons_succ]
              refine take_at (i := 1) 17 (v := ?_) rfl rfl (by kernel_rfl) (by kernel_rfl) (by kernel_rfl) (fun _ _ _ h => h) (by rfl) ?_ hHeld ?_
              rotate_left
              · (intro w hSw; (try dsimp only at hSw); go_simp; try with_reducible rfl)
              simp only [Act.put, List.setIfInBounds_toArray, List.set_cons_zero, List.set_cons_succ]
              refine take_at (i := 2) 18 (v := ?_) rfl rfl (by kernel_rfl) (by kernel_rfl) (by kernel_rfl) (fun _ _ _ h => h) (by rfl) ?_ hHeld ?_
              rotate_left
              · (intro w hSw; (try dsimp only at hSw); go_simp; try with_reducible rfl)
              simp only [Act.put, List.setIfInBounds_toArray, List.set_cons_zero, List.set_cons_succ]
              refine take_at (i := 3) 19 (v := ?_) rfl rfl (by kernel_rfl) (by kernel_rfl) (by kernel_rfl) (fun _ _ _ h => h) (by rfl) ?_ hHeld ?_
              rotate_left
              · (intro w hSw; (try dsimp only at hSw); go_simp; try with_reducible rfl)
              simp only [Act.put, List.setIfInBounds_toArray, List.set_cons_zero, List.set_cons_succ]
              refine take_at (i := 4) 20 (v := ?_) rfl rfl (by kernel_rfl) (by kernel_rfl) (by kernel_rfl) (fun _ _ _ h => h) (by rfl) ?_ hHeld ?_
              rotate_left
              · (intro w hSw; (try dsimp only at hSw); go_simp; try with_reducible rfl)
              simp only [Act.put, List.setIfInBounds_toArray, List.set_cons_zero, List.set_cons_succ]
              refine take_at (i := 5) 21 (v := ?_) rfl rfl (by kernel_rfl) (by kernel_rfl) (by kernel_rfl) (fun _ _ _ h => h) (by rfl) ?_ hHeld ?_
              rotate_left
              · (intro w hSw; (try dsimp only at hSw); go_simp; try with_reducible rfl)
              simp only [Act.put, List.setIfInBounds_toArray, List.set_cons_zero, List.set_cons_succ]
              refine take_at (i := 6) 22 (v := ?_) rfl rfl (by kernel_rfl) (by kernel_rfl) (by kernel_rfl) (fun _ _ _ h => h) (by rfl) ?_ hHeld ?_
              rotate_left
              · (intro w hSw; (try dsimp only at hSw); go_simp; try with_reducible rfl)
              simp only [Act.put, List.setIfInBounds_toArray, List.set_cons_zero, List.set_cons_succ]
              refine take_at (i := 7) 23 (v := ?_) rfl rfl (by kernel_rfl) (by kernel_rfl) (by kernel_rfl) (fun _ _ _ h => h) (by rfl) ?_ hHeld ?_
              rotate_left
              · (intro w hSw; (try dsimp only at hSw); go_simp; try with_reducible rfl)
              simp only [Act.put, List.setIfInBounds_toArray, List.set_cons_zero, List.set_cons_succ]
              refine take_at (i := 8) 24 (v := ?_) rfl rfl (by kernel_rfl) (by kernel_rfl) (by kernel_rfl) (fun _ _ _ h => h) (by rfl) ?_ hHeld ?_
              rotate_left
              · (intro w hSw; (try dsimp only at hSw); go_simp; try with_reducible rfl)
              simp only [Act.put, List.setIfInBounds_toArray, List.set_cons_zero, List.set_cons_succ]
              refine take_at (i := 9) 25 (v := ?_) rfl rfl (by kernel_rfl) (by kernel_rfl) (by kernel_rfl) (fun _ _ _ h => h) (by rfl) ?_ hHeld ?_
              rotate_left
              · (intro w hSw; (try dsimp only at hSw); go_simp; try with_reducible rfl)
              simp only [Act.put, List.setIfInBounds_toArray, List.set_cons_zero, List.set_cons_succ]
              refine take_at (i := 10) 26 (v := ?_) rfl rfl (by kernel_rfl) (by kernel_rfl) (by kernel_rfl) (fun _ _ _ h => h) (by rfl) ?_ hHeld ?_
              rotate_left
              · (intro w hSw; (try dsimp only at hSw); go_simp; try with_reducible rfl)
              simp only [Act.put, List.setIfInBounds_toArray, List.set_cons_zero, List.set_cons_succ]
              refine take_at (i := 11) 27 (v := ?_) rfl rfl (by kernel_rfl) (by kernel_rfl) (by kernel_rfl) (fun _ _ _ h => h) (by rfl) ?_ hHeld ?_
              rotate_left
              · (intro w hSw; (try dsimp only at hSw); go_simp; try with_reducible rfl)
              simp only [Act.put, List.setIfInBounds_toArray, List.set_cons_zero, List.set_cons_succ]
              refine take_at (i := 12) 28 (v := ?_) rfl rfl (by kernel_rfl) (by kernel_rfl) (by kernel_rfl) (fun _ _ _ h => h) (by rfl) ?_ hHeld ?_
              rotate_left
              · (intro w hSw; (try dsimp only at hSw); go_simp; try with_reducible rfl)
              simp only [Act.put, List.setIfInBounds_toArray, List.set_cons_zero, List.set_cons_succ]
              refine take_at (i := 13) 29 (v := ?_) rfl rfl (by kernel_rfl) (by kernel_rfl) (by kernel_rfl) (fun _ _ _ h => h) (by rfl) ?_ hHeld ?_
              rotate_left
              · (intro w hSw; (try dsimp only at hSw); go_simp; try with_reducible rfl)
              simp only [Act.put, List.setIfInBounds_toArray, List.set_cons_zero, List.set_cons_succ]
              refine take_at (i := 14) 30 (v := ?_) rfl rfl (by kernel_rfl) (by kernel_rfl) (by kernel_rfl) (fun _ _ _ h => h) (by rfl) ?_ hHeld ?_
              rotate_left
              · (intro w hSw; (try dsimp only at hSw); go_simp; try with_reducible rfl)
              simp only [Act.put, List.setIfInBounds_toArray, List.set_cons_zero, List.set_cons_succ]
              refine take_at (i := 15) 31 (v := ?_) rfl rfl (by kernel_rfl) (by kernel_rfl) (by kernel_rfl) (fun _ _ _ h => h) (by rfl) ?_ hHeld ?_
              rotate_left
              · (intro w hSw; (try dsimp only at hSw); go_simp; try with_reducible rfl)
              simp only [Act.put, List.setIfInBounds_toArray, List.set_cons_zero, List.set_cons_succ]
              refine take_at (i := 16) 32 (v := ?_) rfl rfl (by kernel_rfl) (by kernel_rfl) (by kernel_rfl) (fun _ _ _ h => h) (by rfl) ?_ hHeld ?_
              rotate_left
              · (intro w hSw; (try dsimp only at hSw); go_simp; try with_reducible rfl)
              simp only [Act.put, List.setIfInBounds_toArray, List.set_cons_zero, List.set_cons_succ]
              refine take_at (i := 17) 33 (v := ?_) rfl rfl (by kernel_rfl) (by kernel_rfl) (by kernel_rfl) (fun _ _ _ h => h) (by rfl) ?_ hHeld ?_
              rotate_left
              · (intro w hSw; (try dsimp only at hSw); go_simp; try with_reducible rfl)
              simp only [Act.put, List.setIfInBounds_toArray, List.set_cons_zero, List.set_cons_succ]
              refine take_at (i := 18) 34 (v := ?_) rfl rfl (by kernel_rfl) (by kernel_rfl) (by kernel_rfl) (fun _ _ _ h => h) (by rfl) ?_ hHeld ?_
              rotate_left
              · (intro w hSw; (try dsimp only at hSw); go_simp; try with_reducible rfl)
              simp only [Act.put, List.setIfInBounds_toArray, List.set_cons_zero, List.set_cons_succ]
              refine take_at (i := 19) 35 (v := ?_) rfl rfl (by kernel_rfl) (by kernel_rfl) (by kernel_rfl) (fun _ _ _ h => h) (by rfl) ?_ hHeld ?_
              rotate_left
              · (intro w hSw; (try dsimp only at hSw); go_simp; try with_reducible rfl)
              simp only [Act.put, List.setIfInBounds_toArray, List.set_cons_zero, List.set_cons_succ]
              refine wpAnyH_done (by kernel_rfl) ?_ _
              refine NoPanic.normal ?_
              go_wp2
              go_roundw
              case rel => exact ⟨k + 1, max a1 at_, true, by omega, rfl, by rw [← max_if], by go_num, HNX.out, HBW.out.drew⟩
              case measure => simp [intOf]; omega
            · have HNX : Hid (NextS (xs.take (k + 1)) at_ f true) := by unfold Hid; rw [HTK.out]; exact NextS.keep HNS.out h1b (by simp only; omega)
              go_wp2_with fail
              refine wp_region_noPanic ?_
              refine wp_region_held_drew (S := (fun u => Below w.heap.size w u)) (by kernel_rfl) (by first | exact hbw.drew | assumption) (fun hHeld => ?_)
              refine take_at (i := 0) 16 (v := ?_) rfl rfl (by kernel_rfl) (by kernel_rfl) (by kernel_rfl) (fun _ _ _ h => h) (by rfl) ?_ hHeld ?_
              rotate_left
              · (intro w hSw; (try dsimp only at hSw); go_simp; try with_reducible rfl)
              simp only [Act.put, List.setIfInBounds_toArray, List.set_cons_zero, List.set_cons_succ]
              refine take_at (i := 1) 17 (v := ?_) rfl rfl (by kernel_rfl) (by kernel_rfl) (by kernel_rfl) (fun _ _ _ h => h) (by rfl) ?_ hHeld ?_
              rotate_left
              · (intro w hSw; (try dsimp only at hSw); go_simp; try with_reducible rfl)
              simp only [Act.put, List.setIfInBounds_toArray, List.set_cons_zero, List.set_cons_succ]
              refine take_at (i := 2) 18 (v := ?_) rfl rfl (by kernel_rfl) (by kernel_rfl) (by kernel_rfl) (fun _ _ _ h => h) (by rfl) ?_ hHeld ?_
              rotate_left
              · (intro w hSw; (try dsimp only at hSw); go_simp; try with_reducible rfl)
              simp only [Act.put, List.setIfInBounds_toArray, List.set_cons_zero, List.set_cons_succ]
              refine take_at (i := 3) 19 (v := ?_) rfl rfl (by kernel_rfl) (by kernel_rfl) (by kernel_rfl) (fun _ _ _ h => h) (by rfl) ?_ hHeld ?_
              rotate_left
              · (intro w hSw; (try dsimp only at hSw); go_simp; try with_reducible rfl)
              simp only [Act.put, List.setIfInBounds_toArray, List.set_cons_zero, List.set_cons_succ]
              refine take_at (i := 4) 20 (v := ?_) rfl rfl (by kernel_rfl) (by kernel_rfl) (by kernel_rfl) (fun _ _ _ h => h) (by rfl) ?_ hHeld ?_
              rotate_left
              · (intro w hSw; (try dsimp only at hSw); go_simp; try with_reducible rfl)
              simp only [Act.put, List.setIfInBounds_toArray, List.set_cons_zero, List.set_cons_succ]
              refine take_at (i := 5) 21 (v := ?_) rfl rfl (by kernel_rfl) (by kernel_rfl) (by kernel_rfl) (fun _ _ _ h => h) (by rfl) ?_ hHeld ?_
              rotate_left
              · (intro w hSw; (try dsimp only at hSw); go_simp; try with_reducible rfl)
              simp only [Act.put, List.setIfInBounds_toArray, List.set_cons_zero, List.set_cons_succ]
              refine take_at (i := 6) 22 (v := ?_) rfl rfl (by kernel_rfl) (by kernel_rfl) (by kernel_rfl) (fun _ _ _ h => h) (by rfl) ?_ hHeld ?_
              rotate_left
              · (intro w hSw; (try dsimp only at hSw); go_simp; try with_reducible rfl)
              simp only [Act.put, List.setIfInBounds_toArray, List.set_cons_zero, List.set_cons_succ]
              refine take_at (i := 7) 23 (v := ?_) rfl rfl (by kernel_rfl) (by kernel_rfl) (by kernel_rfl) (fun _ _ _ h => h) (by rfl) ?_ hHeld ?_
              rotate_left
              · (intro w hSw; (try dsimp only at hSw); go_simp; try with_reducible rfl)
              simp only [Act.put, List.setIfInBounds_toArray, List.set_cons_zero, List.set_cons_succ]
              refine take_at (i := 8) 24 (v := ?_) rfl rfl (by kernel_rfl) (by kernel_rfl) (by kernel_rfl) (fun _ _ _ h => h) (by rfl) ?_ hHeld ?_
              rotate_left
              · (intro w hSw; (try dsimp only at hSw); go_simp; try with_reducible rfl)
              simp only [Act.put, List.setIfInBounds_toArray, List.set_cons_zero, List.set_cons_succ]
              refine take_at (i := 9) 25 (v := ?_) rfl rfl (by kernel_rfl) (by kernel_rfl) (by kernel_rfl) (fun _ _ _ h => h) (by rfl) ?_ hHeld ?_
              rotate_left
              · (intro w hSw; (try dsimp only at hSw); go_simp; try with_reducible rfl)
              simp only [Act.put, List.setIfInBounds_toArray, List.set_cons_zero, List.set_cons_succ]
              refine take_at (i := 10) 26 (v := ?_) rfl rfl (by kernel_rfl) (by kernel_rfl) (by kernel_rfl) (fun _ _ _ h => h) (by rfl) ?_ hHeld ?_
              rotate_left
              · (intro w hSw; (try dsimp only at hSw); go_simp; try with_reducible rfl)
              simp only [Act.put, List.setIfInBounds_toArray, List.set_cons_zero, List.set_cons_succ]
              refine take_at (i := 11) 27 (v := ?_) rfl rfl (by kernel_rfl) (by kernel_rfl) (by kernel_rfl) (fun _ _ _ h => h) (by rfl) ?_ hHeld ?_
              rotate_left
              · (intro w hSw; (try dsimp only at hSw); go_simp; try with_reducible rfl)
              simp only [Act.put, List.setIfInBounds_toArray, List.set_cons_zero, List.set_cons_succ]
              refine take_at (i := 12) 28 (v := ?_) rfl rfl (by kernel_rfl) (by kernel_rfl) (by kernel_rfl) (fun _ _ _ h => h) (by rfl) ?_ hHeld ?_
              rotate_left
              · (intro w hSw; (try dsimp only at hSw); go_simp; try with_reducible rfl)
              simp only [Act.put, List.setIfInBounds_toArray, List.set_cons_zero, List.set_cons_succ]
              refine take_at (i := 13) 29 (v := ?_) rfl rfl (by kernel_rfl) (by kernel_rfl) (by kernel_rfl) (fun _ _ _ h => h) (by rfl) ?_ hHeld ?_
              rotate_left
              · (intro w hSw; (try dsimp only at hSw); go_simp; try with_reducible rfl)
              simp only [Act.put, List.setIfInBounds_toArray, List.set_cons_zero, List.set_cons_succ]
              refine take_at (i := 14) 30 (v := ?_) rfl rfl (by kernel_rfl) (by kernel_rfl) (by kernel_rfl) (fun _ _ _ h => h) (by rfl) ?_ hHeld ?_
              rotate_left
              · (intro w hSw; (try dsimp only at hSw); go_simp; try with_reducible rfl)
              simp only [Act.put, List.setIfInBounds_toArray, List.set_cons_zero, List.set_cons_succ]
              refine take_at (i := 15) 31 (v := ?_) rfl rfl (by kernel_rfl) (by kernel_rfl) (by kernel_rfl) (fun _ _ _ h => h) (by rfl) ?_ hHeld ?_
              rotate_left
              · (intro w hSw; (try dsimp only at hSw); go_simp; try with_reducible rfl)
              simp only [Act.put, List.setIfInBounds_toArray, List.set_cons_zero, List.set_cons_succ]
              refine take_at (i := 16) 32 (v := ?_) rfl rfl (by kernel_rfl) (by kernel_rfl) (by kernel_rfl) (fun _ _ _ h => h) (by rfl) ?_ hHeld ?_
              rotate_left
              · (intro w hSw; (try dsimp only at hSw); go_simp; try with_reducible rfl)
              simp only [Act.put, List.setIfInBounds_toArray, List.set_cons_zero, List.set_cons_succ]
              refine take_at (i := 17) 33 (v := ?_) rfl rfl (by kernel_rfl) (by kernel_rfl) (by kernel_rfl) (fun _ _ _ h => h) (by rfl) ?_ hHeld ?_
              rotate_left
              · (intro w hSw; (try dsimp only at hSw); go_simp; try with_reducible rfl)
              simp only [Act.put, List.setIfInBounds_toArray, List.set_cons_zero, List.set_cons_succ]
              refine take_at (i := 18) 34 (v := ?_) rfl rfl (by kernel_rfl) (by kernel_rfl) (by kernel_rfl) (fun _ _ _ h => h) (by rfl) ?_ hHeld ?_
              rotate_left
              · (intro w hSw; (try dsimp only at hSw); go_simp; try with_reducible rfl)
              simp only [Act.put, List.setIfInBounds_toArray, List.set_cons_zero, List.set_cons_succ]
              refine take_at (i := 19) 35 (v := ?_) rfl rfl (by kernel_rfl) (by kernel_rfl) (by kernel_rfl) (fun _ _ _ h => h) (by rfl) ?_ hHeld ?_
              rotate_left
              · (intro w hSw; (try dsimp only at hSw); go_simp; try with_reducible rfl)
              simp only [Act.put, List.setIfInBounds_toArray, List.set_cons_zero, List.set_cons_succ]
              refine wpAnyH_done (by kernel_rfl) ?_ _
              refine NoPanic.normal ?_
              go_wp2
              go_roundw
              case rel => exact ⟨k + 1, f, true, by omega, rfl, rfl, by go_num, HNX.out, HBW.out.drew⟩
              case measure => simp [intOf]; omega
    · have hlti : ¬ (k : Int) < (n : Int) := by omega
      have HF : Hid (NextS xs at_ f ok) := by
        have h9 := HNS.out
        rw [List.take_of_length_le (by rw [← HN.out]; omega)] at h9
        exact h9
      go_wp2
      go_ret2
      exact ⟨f, ok, rfl, HF.out, hbw⟩
end
end Go.Proofs.YtplncfahpdmcoaaGreatDoor
namespace Go.Proofs.YtplncfahpdmcoaaGreatDoor
set_option linter.unusedVariables false
set_option linter.unusedSimpArgs false
open Go.RowKit
def mvN : Value → Nat
  | .bool true => 1
  | _ => 0
section
set_option maxRecDepth 20000
set_option maxHeartbeats 1600000
theorem end_t (ao : Option Addr) (n cap : Nat) (xs : List Rg) (a0 : Int) (w : World) (hn : n = xs.length) (hx : RdR w ao xs) (hl : n ≤ 1099511627776) :
    Calls Tryz.prog 38 #[.slice ao n cap, .int .i64 a0] w fun e w' => ∃ f : Int, e = .returned (.int .i64 f) ∧ EndS xs a0 f ∧ Below w.heap.size w w' := by
  have HN : Hid _ := hn
  clear hn
  go_enter Tryz.func38, Tryz.ntmps38
  go_wp2
  go_loopw [1, 5, 6] (fun av mv _ wr => ∃ (a : Int) (m : Bool), av = .int .i64 a ∧ mv = .bool m ∧ a0 ≤ a ∧ (∀ i, a0 ≤ i → i < a → hasR xs i) ∧ (m = false → ¬ hasR xs a) ∧ Below w.heap.size w wr) (fun av mv _ _ => 2 * cntR xs (intOf av) + mvN mv)
  case atStart => exact ⟨a0, true, rfl, rfl, Int.le_refl _, fun i h1 h2 => by omega, (fun h => by cases h), Below.refl _ _⟩
  case round =>
    obtain ⟨a, m, rfl, rfl, ha, hin, hof, hbw⟩ := hrel
    have HA : Hid (a0 ≤ a ∧ ∀ i, a0 ≤ i → i < a → hasR xs i) := ⟨ha, hin⟩
    have HOF : Hid _ := hof
    clear ha hin hof
    cases m
    · go_wp2
      go_ret
      exact ⟨a, rfl, ⟨HA.out.1, HOF.out trivial, HA.out.2⟩, hbw⟩
    · clear HOF
      go_wp2_with fail
      go_loopw [1, 5, 6] (fun av mv j wq => ∃ (k : Nat) (a' : Int) (m : Bool), k ≤ n ∧ j = .int .i64 (k : Int) ∧ av = .int .i64 a' ∧ mv = .bool m ∧ a ≤ a' ∧ (∀ i, a ≤ i → i < a' → hasR xs i) ∧ (m = false → a' = a ∧ ¬ hasR (xs.take k) a) ∧ (m = true → cntR xs a' < cntR xs a) ∧ Below w.heap.size w wq) (fun _ _ j _ => n - (intOf j).toNat)
      case atStart => exact ⟨0, a, false, Nat.zero_le _, rfl, rfl, rfl, Int.le_refl _, fun i h1 h2 => by omega, fun _ => ⟨rfl, hasR_nil a⟩, (fun h => by cases h), hbw⟩
      case round =>
        clear hbw
        obtain ⟨k, a', m, hk, rfl, rfl, rfl, ha', hin, hno, hyes, hbq⟩ := hrel
        have hkw : IntKind.i64.wrap ((k : Int) + 1) = ((k + 1 : Nat) : Int) := by rw [IntKind.wrap_i64]; omega
        have HB : Hid _ := hbq
        have HI : Hid (a ≤ a' ∧ ∀ i, a ≤ i → i < a' → hasR xs i) := ⟨ha', hin⟩
        have HM : Hid ((m = false → a' = a ∧ ¬ hasR (xs.take k) a) ∧ (m = true → cntR xs a' < cntR xs a)) := ⟨hno, hyes⟩
        clear ha' hin hno hyes
        by_cases hlt : k < n
        · have hk1 : k < xs.length := by rw [← HN.out]; exact hlt
          have hlti : (k : Int) < (n : Int) := by omega
          have hk0 : (0 : Int) ≤ (k : Int) := by omega
          obtain ⟨b, o, rfl, hc1, hc2⟩ := (hx.below hbq) k hk1
          obtain ⟨x, hx9⟩ : ∃ x : Rg, x = xs[k] := ⟨_, rfl⟩
          rw [← hx9] at hc1 hc2
          have HTK : Hid (xs.take (k + 1) = xs.take k ++ [x]) := by unfold Hid; rw [List.take_succ_eq_append_getElem hk1, hx9]
          have HIN : Hid (x ∈ xs) := by unfold Hid; rw [hx9]; exact List.getElem_mem hk1
          obtain ⟨a1, a2⟩ := x
          simp only at hc1 hc2
          clear hx9 hbq
          by_cases h1 : a1 ≤ a'
          · by_cases h2 : a' < a2
            · have HNX : Hid (a ≤ a2 ∧ (∀ i, a ≤ i → i < a2 → hasR xs i) ∧ cntR xs a2 < cntR xs a) := by
                refine ⟨by have := HI.out.1; omega, fun i g1 g2 => ?_, ?_⟩
                · by_cases g3 : i < a'
                  · exact HI.out.2 i g1 g3
                  · exact ⟨(a1, a2), HIN.out, by simp only; omega, g2⟩
                · have g1 := cntR_less xs (a := a') (b := a2) (by omega) ⟨(a1, a2), HIN.out, h2, Int.le_refl _⟩
                  have g2 := cntR_mono xs HI.out.1
                  omega
              go_wp2
              go_roundw
              case rel => exact ⟨k + 1, a2, true, by omega, by go_num, rfl, rfl, HNX.out.1, HNX.out.2.1, (fun h => by cases h), fun _ => HNX.out.2.2, HB.out⟩
              case measure => simp [intOf]; omega
            · have HNX : Hid (m = false → a' = a ∧ ¬ hasR (xs.take (k + 1)) a) := fun e => by
                obtain ⟨e1, e2⟩ := HM.out.1 e
                refine ⟨e1, fun h9 => ?_⟩
                rw [HTK.out] at h9
                rcases (hasR_snoc _ _ _).1 h9 with h9 | h9
                · exact e2 h9
                · simp only at h9; omega
              go_wp2
              go_roundw
              case rel => exact ⟨k + 1, a', m, by omega, by go_num, rfl, rfl, HI.out.1, HI.out.2, HNX.out, HM.out.2, HB.out⟩
              case measure => simp [intOf]; omega
          · have HNX : Hid (m = false → a' = a ∧ ¬ hasR (xs.take (k + 1)) a) := fun e => by
              obtain ⟨e1, e2⟩ := HM.out.1 e
              refine ⟨e1, fun h9 => ?_⟩
              rw [HTK.out] at h9
              rcases (hasR_snoc _ _ _).1 h9 with h9 | h9
              · exact e2 h9
              · simp only at h9; omega
            go_wp2
            go_roundw
            case rel => exact ⟨k + 1, a', m, by omega, by go_num, rfl, rfl, HI.out.1, HI.out.2, HNX.out, HM.out.2, HB.out⟩
            case measure => simp [intOf]; omega
        · have hlti : ¬ (k : Int) < (n : Int) := by omega
          have HT : Hid (xs.take k = xs) := List.take_of_length_le (by rw [← HN.out]; omega)
          clear hbq
          go_wp2
          go_roundw
          case rel =>
            refine ⟨a', m, rfl, rfl, by have := HA.out.1; have := HI.out.1; omega, fun i g1 g2 => ?_, fun e => ?_, HB.out⟩
            · by_cases g3 : i < a
              · exact HA.out.2 i g1 g3
              · exact HI.out.2 i (by omega) g2
            · obtain ⟨e1, e2⟩ := HM.out.1 e
              rw [HT.out] at e2
              rw [e1]
              exact e2
          case measure =>
            cases m
            · obtain ⟨e1, -⟩ := HM.out.1 rfl
              rw [e1]
              simp [intOf, mvN]
            · have := HM.out.2 rfl
              simp [intOf, mvN]
              omega
end
end Go.Proofs.YtplncfahpdmcoaaGreatDoor
