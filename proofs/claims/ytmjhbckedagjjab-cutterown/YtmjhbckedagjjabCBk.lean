import Derived.Test.YtmjhbckedagjjabCuB
import Derived.Test.YtmjhbckedagjjabLCg
namespace Go.Proofs.Ytmjhbckedagjjab
set_option linter.unusedVariables false
set_option linter.unusedSimpArgs false
open Go.RowKit
/-- numbers that came in -/
def RdN (w : World) (a : Option Addr) (xs : List Int) : Prop := 0 < xs.length → ∃ b o, a = some ⟨b, o, none⟩ ∧ ∀ j (hj : j < xs.length), w.cell? ⟨b, o + j, none⟩ = some (.int .i64 xs[j]) ∧ (-9223372036854775808 ≤ xs[j] ∧ xs[j] ≤ 9223372036854775807)
theorem RdN.below {w w' : World} {a : Option Addr} {xs : List Int} (h : RdN w a xs) (hb : Below w.heap.size w w') : RdN w' a xs := fun h0 => by
  obtain ⟨b, o, h1, h2⟩ := h h0
  exact ⟨b, o, h1, fun j hj => ⟨(hb.cell (World.block_lt_of_cell? w _ (h2 j hj).1)).trans (h2 j hj).1, (h2 j hj).2⟩⟩
theorem mod_in (x : Int) (n : Nat) (h : 0 < n) : ∃ (r : Int) (s : Nat), x.tmod (n : Int) = r ∧ -(n : Int) < r ∧ r < (n : Int) ∧ (r + (n : Int)).tmod (n : Int) = (s : Int) ∧ s < n := by
  have h1 : (0 : Int) < (n : Int) := by omega
  refine ⟨x.tmod n, ((x.tmod n + n).tmod n).toNat, rfl, Int.lt_tmod_of_pos x h1, Int.tmod_lt_of_pos x h1, ?_, ?_⟩
  · rw [Int.toNat_of_nonneg (Int.tmod_nonneg _ (by have := Int.lt_tmod_of_pos x h1; omega))]
  · have h2 := Int.tmod_lt_of_pos (x.tmod n + n) h1
    have h3 : 0 ≤ (x.tmod n + n).tmod n := Int.tmod_nonneg _ (by have := Int.lt_tmod_of_pos x h1; omega)
    omega
theorem infoB : (Try.prog.info? 4).map (fun i => (i.zero, i.size, i.bytes)) = some (some (.bool false), 1, 1) := by kernel_rfl
/-- a box and a row of bools beside it -/
structure Bak (W0 : World) (g : Nat) (w : World) (pv : Option Addr) (S : List Seg) (H : List Bool) : Prop where
  ex : ∃ F, PBx w pv (some S) F ∧ ∀ b, F b → W0.heap.size ≤ b ∧ b ≠ g
  row : w.heap[g]? = some (.cells (H.map Value.bool).toArray 4 (0, 0))
  lo : W0.heap.size ≤ g
  bel : Below W0.heap.size W0 w
section
variable {W0 w w' : World} {g : Nat} {pv : Option Addr} {S : List Seg} {H : List Bool}
theorem Bak.glt (h : Bak W0 g w pv S H) : g < w.heap.size := (Array.getElem?_eq_some_iff.1 h.row).1
theorem Bak.below (h : Bak W0 g w pv S H) (hb : Below w.heap.size w w') : Bak W0 g w' pv S H := by
  obtain ⟨F, h1, h2⟩ := h.ex
  exact ⟨⟨F, h1.below hb, h2⟩, (hb.block g h.glt).trans h.row, h.lo, h.bel.trans (hb.mono h.bel.size)⟩
theorem Bak.one (h : Bak W0 g w pv S H) : One W0 w pv (some S) := by
  obtain ⟨F, h1, h2⟩ := h.ex
  exact ⟨⟨F, h1, fun b hb => (h2 b hb).1⟩, h.bel⟩
theorem Bak.put (h : Bak W0 g w pv S H) (i : Int) (ao : Option Addr) (n cap : Nat) (xs : Seg) (hn : n = xs.length) (hx : Rd w ao xs) (hnil : ao = none → cap = 0) (hl : n ≤ 140737488355328) {z : Int} {S' : List Seg} (he : putE (some S) i xs = z) (hs : putS (some S) i xs = some S') :
    Calls Try.prog 14 #[.pointer pv, .int .i64 i, .slice ao n cap] w fun e w' => e = .returned (.int .i64 z) ∧ Bak W0 g w' pv S' H := by
  obtain ⟨F, h1, h2⟩ := h.ex
  refine Calls.mono (pput h1 i ao n cap xs hn hx hnil hl) ?_
  rintro e w' ⟨rfl, ⟨F', h6, h7⟩, h8⟩
  rw [hs] at h6
  refine ⟨by rw [he], ⟨F', h6, fun b hf => ?_⟩, (h8.block g h.glt (fun hf => (h2 g hf).2 rfl)).trans h.row, h.lo, h.bel.trans (h8.below (fun b hb => (h2 b hb).1) h.bel.size)⟩
  rcases h7 b hf with h9 | h9
  · exact h2 b h9
  · exact ⟨Nat.le_trans h.bel.size h9, fun e => by have := h.glt; omega⟩
theorem Bak.cell (h : Bak W0 g w pv S H) {k : Nat} {y : Bool} (hk : H[k]? = some y) : w.cell? ⟨g, k, none⟩ = some (.bool y) := by
  rw [cell_of_row _ _ _ _ _ _ h.row]
  simp [hk]
theorem Bak.fz (h : Bak W0 g w pv S H) (i : Nat) : w.frozen? ⟨g, i, none⟩ = false := by simp [World.frozen?, h.row]
theorem Bak.mark (h : Bak W0 g w pv S H) {k : Nat} : Bak W0 g (w.setCell ⟨g, k, none⟩ (.bool true)) pv S (H.set k true) := by
  obtain ⟨F, h1, h2⟩ := h.ex
  refine ⟨⟨F, h1.kept (by simp) (fun b hf => heap_setCell_other _ _ _ _ (fun e => (h2 b hf).2 e)), h2⟩, ?_, h.lo, h.bel.grown (gset1 w g k _) h.bel.size (fun b e => by cases e; exact h.lo)⟩
  rw [heap_setCell_same w g k _ _ _ h.row]
  simp [List.map_set]
end
/-- the step: what Put answers of a segment of the block -/
theorem PtS.step {T S : List Seg} {xs : Seg} {m : Nat} (hT : SegT T xs m) (h : PtS T S) {k : Nat} {t : Seg} (ht : T[k]? = some t) :
    (S[k]? = some [] ∧ putE (some S) (k : Int) t = 0 ∧ putS (some S) (k : Int) t = some (S.set k t) ∧ (hvL S)[k]? = some false ∧ hvL (S.set k t) = (hvL S).set k true ∧ leftN (S.set k t) + 1 = leftN S ∧ PtS T (S.set k t)) ∨
    (S[k]? = some t ∧ putE (some S) (k : Int) t = 3 ∧ putS (some S) (k : Int) t = some S ∧ (hvL S)[k]? = some true ∧ hvL S = (hvL S).set k true) := by
  have hp := hT.pos ht
  have hkT := (List.getElem?_eq_some_iff.1 ht).1
  have hk : k < S.length := by rw [h.len]; exact hkT
  have htn : t ≠ [] := fun e => by rw [e] at hp; simp at hp
  rcases h.el k t S[k] ht (List.getElem?_eq_getElem hk) with e | e
  · left
    have hs : S[k]? = some [] := by rw [List.getElem?_eq_getElem hk, e]
    have hP := h.set ht
    obtain ⟨e1, e2⟩ := putE_free (xs := t) hk (by omega) (by omega) hs
    rw [if_pos (hP.fit hT)] at e1 e2
    exact ⟨hs, e1, e2, by rw [hvL_get hs]; rfl, hvL_set htn, leftN_set hs htn, hP⟩
  · right
    have hs : S[k]? = some t := by rw [List.getElem?_eq_getElem hk, e]
    obtain ⟨e1, e2⟩ := putE_at (xs := t) hk (by omega) (by omega) hs htn
    rw [if_pos rfl] at e1
    exact ⟨hs, e1, e2, by rw [hvL_get hs]; simp [htn], (hvL_same hs htn).symm⟩
theorem PtS.wholeB {T S : List Seg} : wholeB (some S) = decide (leftN S = 0) := by
  show allS S = _
  by_cases h : allS S = true
  · rw [h, decide_eq_true (leftN_zero.2 h)]
  · rw [decide_eq_false (fun e => h (leftN_zero.1 e))]
    simpa using h
theorem PtS.wholeX {T S : List Seg} {xs : Seg} {m : Nat} (hT : SegT T xs m) (h : PtS T S) : wholeX (some S) = if leftN S = 0 then xs else [] := by
  show (if allS S = true then S.flatten else []) = _
  by_cases h0 : leftN S = 0
  · rw [if_pos (leftN_zero.1 h0), if_pos h0, h.all (leftN_zero.1 h0), hT.flat]
  · rw [if_neg (fun e => h0 (leftN_zero.2 e)), if_neg h0]
theorem hvL_rep (K : Nat) : hvL (List.replicate K []) = List.replicate K false := by simp [hvL]
/-- all up to i have come -/
def Came (S : List Seg) (i : Nat) : Prop := ∀ j, j < i → S[j]? ≠ some []
theorem Came.zero (S : List Seg) : Came S 0 := fun j h => absurd h (Nat.not_lt_zero _)
theorem Came.set {S : List Seg} {i k : Nat} {t : Seg} (h : Came S i) (ht : t ≠ []) : Came (S.set k t) i := fun j hj e => by
  by_cases hk : k = j
  · subst hk
    rw [List.getElem?_set] at e
    simp only [if_true] at e
    split at e
    · cases e; exact ht rfl
    · cases e
  · rw [List.getElem?_set_ne hk] at e
    exact h j hj e
theorem Came.one {S : List Seg} {i : Nat} (h : Came S i) (hn : S[i]? ≠ some []) : Came S (i + 1) := fun j hj => by
  by_cases e : j = i
  · subst e; exact hn
  · exact h j (by omega)
theorem Came.left {S : List Seg} (h : Came S S.length) : leftN S = 0 := by
  rw [leftN_zero]
  unfold allS
  rw [List.all_eq_true]
  intro x hx
  obtain ⟨j, hj, rfl⟩ := List.mem_iff_getElem.1 hx
  have := h j hj
  rw [List.getElem?_eq_getElem hj] at this
  simp
  exact fun e => this (by rw [e])
end Go.Proofs.Ytmjhbckedagjjab
