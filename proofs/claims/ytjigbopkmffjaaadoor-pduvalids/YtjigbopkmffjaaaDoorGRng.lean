import Derived.Test.YtjigbopkmffjaaaDoorUG
import Derived.Lib.SlBuf
namespace Go.Proofs.YtjigbopkmffjaaaDoor
set_option linter.unusedVariables false
set_option linter.unusedSimpArgs false
open Go.RowKit
abbrev mkR : Rg := (-99, 99)
def m3 : List Rg := [mkR, mkR, mkR]
/-- the row behind a copy, room for three in which k marks stand -/
def rmR (xs : List Rg) (k : Nat) : List Rg := xs ++ (List.replicate k mkR ++ List.replicate (3 - k) (0, 0))
theorem rmR_len (xs : List Rg) (k : Nat) (h : k ≤ 3) : (rmR xs k).length = xs.length + 3 := by simp [rmR]; omega
theorem rmR_set (xs : List Rg) (k : Nat) (h : k < 3) : (rmR xs k).set (xs.length + k) mkR = rmR xs (k + 1) := by
  unfold rmR
  rw [List.set_append_right _ _ (by omega), Nat.add_sub_cancel_left]
  congr 1
  match k, h with
  | 0, _ => rfl
  | 1, _ => rfl
  | 2, _ => rfl
theorem rmR_all (xs : List Rg) : rmR xs 3 = xs ++ m3 := rfl
theorem flatR_rep (n : Nat) : (madeCells (Value.cells (.agg #[.int .i64 0, .int .i64 0])) (n * 2)).toList = flatR (List.replicate n (0, 0)) := by
  apply List.ext_getElem?
  intro j
  by_cases hj : j < n * 2
  · obtain ⟨h1, h2⟩ := flatR_get (List.replicate n ((0, 0) : Rg)) (j / 2) (by simp; omega)
    have hm : (madeCells (Value.cells (.agg #[.int .i64 0, .int .i64 0])) (n * 2)).toList[j]? = some (.int .i64 0) := by
      rw [Array.getElem?_toList]
      rcases Nat.mod_two_eq_zero_or_one j with h | h
      · simp [madeCells, Value.cells, hj, h]
      · simp [madeCells, Value.cells, hj, h]
    rw [hm]
    rcases Nat.mod_two_eq_zero_or_one j with h | h
    · rw [show j / 2 * 2 = j from by omega] at h1
      rw [h1]
      simp
    · rw [show j / 2 * 2 + 1 = j from by omega] at h2
      rw [h2]
      simp
  · rw [List.getElem?_eq_none (by simp [madeCells]; omega), List.getElem?_eq_none (by rw [flatR_len]; simp; omega)]
theorem flatR_set2 : ∀ (xs : List Rg) (j : Nat) (_ : j < xs.length) (y : Rg), ((flatR xs).set (j * 2) (.int .i64 y.1)).set (j * 2 + 1) (.int .i64 y.2) = flatR (xs.set j y)
  | [], j, h, _ => by cases h
  | x :: xs, 0, _, y => by simp [flatR]
  | x :: xs, j + 1, h, y => by
    have h1 := flatR_set2 xs j (by simpa using h) y
    have e : ∀ y ys, flatR (y :: ys) = .int .i64 y.1 :: .int .i64 y.2 :: flatR ys := fun y ys => by simp [flatR]
    rw [e, show (j + 1) * 2 = j * 2 + 1 + 1 from by omega]
    simp only [List.set_cons_succ]
    rw [h1, e]
theorem ownR_set2 {w : World} {B g cap n : Nat} {ys : List Rg} (hn : n = ys.length) (h : OwnR w B (.slice (some ⟨g, 0, none⟩) n cap) ys) (j : Nat) (hj : j < n) (y : Rg) :
    OwnR (w.setCells g (j * 2) (rv y)) B (.slice (some ⟨g, 0, none⟩) n cap) (ys.set j y) ∧ w.grownBy (w.setCells g (j * 2) (rv y)) (some g) := by
  unfold OwnR at h
  rw [← hn] at h
  have h1 := World.ownsRow.stored h (j * 2) (.int .i64 y.1)
  have h2 := World.ownsRow.stored h1.1 (j * 2 + 1) (.int .i64 y.2)
  refine ⟨?_, h1.2.trans' h2.2⟩
  unfold OwnR
  rw [List.length_set, ← hn, ← flatR_set2 ys j (by omega) y]
  exact h2.1
theorem ownR_there {w : World} {B g cap n : Nat} {ys : List Rg} (hn : n = ys.length) (h : OwnR w B (.slice (some ⟨g, 0, none⟩) n cap) ys) (j : Nat) (hj : j < n) : w.there g (j * 2) 2 := fun i hi => by
  refine ⟨?_, ownR_cold h _⟩
  unfold OwnR at h
  rw [← hn] at h
  rw [World.ownsRow.cellAt h _ (by omega), List.getElem?_eq_getElem (by rw [flatR_len]; omega)]
  rfl
theorem run_copyR (w : World) (ty : TypeId) (g dLen dCap n : Nat) (a : Addr) (sLen sCap : Nat) (cur : Array Value) (t : TypeId) (cs : List Value) (hg : w.heap[g]? = some (.cells cur t (0, 0))) (hn : n = Nat.min sLen dLen) (hc : cs.length = n * 2)
    (hsrc : ∀ j v, cs[j]? = some v → w.cell? (a.add j) = some v) (hfit : cs.length ≤ cur.size) (h1 : ∀ v ∈ cs, v.oneCell' = true) :
    (Builtin.copy_ #[24, 24] ty #[.slice (some ⟨g, 0, none⟩) dLen dCap, .slice (some a) sLen sCap]).run Tryd.prog w = .ok (goInt n) (w.setRow g (cs ++ cur.toList.drop cs.length).toArray) := by
  obtain ⟨i0, hi, hz0, hz1, hz2⟩ := info_parts infoR
  have hl := run_loadCells_list (P := Tryd.prog) w a cs hsrc
  have hst := run_storeCells_at Tryd.prog g 0 t cs 0 cur w hg (by simpa using hfit) h1
  rw [hc] at hl
  simp [Builtin.copy_, run_underlying Tryd.underlying24, Builtin.lenOf, Builtin.firstCells, sizeOf, typeInfo, hi, hz1, ← hn, hl]
  simp at hst
  simp [hst]
theorem run_copyR_none (w : World) (ty : TypeId) (d a : Option Addr) (dLen dCap sLen sCap : Nat) (hn : Nat.min sLen dLen = 0) :
    (Builtin.copy_ #[24, 24] ty #[.slice d dLen dCap, .slice a sLen sCap]).run Tryd.prog w = .ok (goInt 0) w := by
  obtain ⟨i0, hi, hz0, hz1, hz2⟩ := info_parts infoR
  have hl : ∀ (x : Addr), (loadCells x 0).run Tryd.prog w = .ok #[] w := fun x => by simpa using run_loadCells_list (P := Tryd.prog) w x [] (by simp)
  cases d <;> cases a <;> simp [Builtin.copy_, run_underlying Tryd.underlying24, Builtin.lenOf, Builtin.firstCells, sizeOf, typeInfo, hi, hz1, hn, storeCells, hl]
theorem ownR_row {w : World} {B g n : Nat} {ys : List Rg} (hB : B ≤ g) (hn : n = ys.length) (hm : n ≤ maxLen) (h : w.heap[g]? = some (.cells (flatR ys).toArray 53 (0, 0))) : OwnR w B (.slice (some ⟨g, 0, none⟩) n n) ys := by
  subst hn
  exact ⟨flatR_len ys, .inr ⟨g, _, _, rfl, hB, h, Nat.le_refl _, hm, by simp [flatR_len], by rw [← flatR_len]; simp⟩⟩
end Go.Proofs.YtjigbopkmffjaaaDoor
