import Derived.Test.YtekfolppahnpoaaFam
import Derived.Test.YtekfolppahnpoaaDMore
namespace Go.Proofs.Ytekfolppahnpoaa
set_option linter.unusedVariables false
set_option linter.unusedSimpArgs false
open Go.RowKit Go.Maps
abbrev Key := Nat × Nat
/-- rows of memory by keys, no two of them in one block -/
structure FamK (w : World) (B : Nat) (F : Key → Row) : Prop where
  own : ∀ x, (F x).at w B
  dis : ∀ x y, x ≠ y → (F x).v.ownBlock = none ∨ (F x).v.ownBlock ≠ (F y).v.ownBlock
def updF (F : Key → Row) (k : Key) (r : Row) : Key → Row := fun x => if x = k then r else F x
theorem updF_same (F : Key → Row) (k : Key) (r : Row) : updF F k r k = r := by simp [updF]
theorem updF_other (F : Key → Row) {k x : Key} (h : x ≠ k) (r : Row) : updF F k r x = F x := by simp [updF, h]
theorem FamK.below {w w' : World} {B : Nat} {F : Key → Row} (h : FamK w B F) (hb : Below w.heap.size w w') : FamK w' B F := ⟨fun x => Row.at_below (h.own x) hb, h.dis⟩
theorem FamK.lt {w : World} {B : Nat} {F : Key → Row} (h : FamK w B F) (x : Key) (g : Nat) (hg : (F x).v.ownBlock = some g) : B ≤ g ∧ g < w.heap.size := Row.at_lt (h.own x) g hg
/-- a row beside the others, in the place of one -/
theorem FamK.put {w : World} {B : Nat} {F : Key → Row} (h : FamK w B F) (k : Key) (r : Row) (hr : r.at w B) (hne : ∀ x, r.v.ownBlock = none ∨ r.v.ownBlock ≠ (F x).v.ownBlock) : FamK w B (updF F k r) := by
  refine ⟨fun x => ?_, fun x y hxy => ?_⟩
  · by_cases e : x = k
    · subst e; rw [updF_same]; exact hr
    · rw [updF_other _ e]; exact h.own x
  · by_cases e : x = k
    · subst e
      rw [updF_same, updF_other _ (fun e => hxy e.symm)]
      exact hne y
    · rw [updF_other _ e]
      by_cases e2 : y = k
      · subst e2
        rw [updF_same]
        rcases hne x with h1 | h1
        · by_cases h2 : (F x).v.ownBlock = none
          · exact .inl h2
          · right; rw [h1]; exact h2
        · exact .inr (fun e => h1 e.symm)
      · rw [updF_other _ e2]; exact h.dis x y hxy
/-- a row changes: in its block, or it goes to a new one -/
theorem FamK.step {w w' : World} {B : Nat} {F : Key → Row} (h : FamK w B F) (k : Key) (hg : w.grownBy w' (F k).v.ownBlock) (r : Row) (hr : r.at w' B) (hb : r.v.ownBlock = (F k).v.ownBlock ∨ ∀ g, r.v.ownBlock = some g → w.heap.size ≤ g) : FamK w' B (updF F k r) := by
  have old : ∀ x, x ≠ k → (F x).v.ownBlock = none ∨ ((F x).v.ownBlock ≠ r.v.ownBlock ∧ r.v.ownBlock ≠ (F x).v.ownBlock) := by
    intro x hne
    rcases hb with hb | hb
    · rw [hb]
      rcases h.dis x k hne with h1 | h1
      · exact .inl h1
      · exact .inr ⟨h1, fun e => h1 e.symm⟩
    · cases hv : (F x).v.ownBlock with
      | none => exact .inl rfl
      | some g =>
        have h1 := (h.lt x g hv).2
        right
        refine ⟨fun e => ?_, fun e => ?_⟩
        · have := hb g e.symm; omega
        · have := hb g e; omega
  refine ⟨fun x => ?_, fun x y hxy => ?_⟩
  · by_cases e : x = k
    · subst e; rw [updF_same]; exact hr
    · rw [updF_other _ e]
      exact World.ownsRow.kept (h.own x) hg (h.dis x k e)
  · by_cases e : x = k
    · subst e
      rw [updF_same, updF_other _ (fun e => hxy e.symm)]
      rcases old y (fun e => hxy e.symm) with h3 | h3
      · by_cases h4 : r.v.ownBlock = none
        · exact .inl h4
        · right; rw [h3]; exact h4
      · exact .inr h3.2
    · rw [updF_other _ e]
      by_cases e2 : y = k
      · subst e2
        rw [updF_same]
        rcases old x e with h3 | h3
        · exact .inl h3
        · exact .inr h3.1
      · rw [updF_other _ e2]; exact h.dis x y hxy
/-- a block that is none of the rows' changes -/
theorem FamK.far {w w' : World} {B : Nat} {F : Key → Row} {row : Option Nat} (h : FamK w B F) (hg : w.grownBy w' row) (hp : ∀ x, (F x).v.ownBlock = none ∨ (F x).v.ownBlock ≠ row) : FamK w' B F :=
  ⟨fun x => World.ownsRow.kept (h.own x) hg (hp x), h.dis⟩
/-- append of one cell: in the block, or in a new one -/
theorem run_app1 {w : World} (B : Nat) (t ty e : TypeId) (z : Value) (by_ : Nat) (ht : Try.prog.underlying t = some (.slice e)) (hinf : (Try.prog.info? e).map (fun i => (i.zero, i.size, i.bytes)) = some (some z, 1, by_)) (hz : z.cells.size = 1)
    (v : Value) (xs : List Value) (hown : w.ownsRow B e 1 v xs.length xs) (g0 : Nat) (c : Nat) (u : Value) (hu : w.heap[g0]? = some (.cells #[u] e (0, 0))) (h1 : u.oneCell' = true) (h63 : xs.length + 1 ≤ 140737488355328) (hby : (xs.length + 1) * by_ ≤ 140737488355328) (hbase : B ≤ w.heap.size) :
    ∃ v' w', (Builtin.append_ #[t, t] ty #[v, .slice (some ⟨g0, 0, none⟩) 1 c]).run Try.prog w = .ok v' w' ∧ w'.ownsRow B e 1 v' (xs ++ [u]).length (xs ++ [u]) ∧
      ((∃ g cap, v = .slice (some ⟨g, 0, none⟩) xs.length cap ∧ v' = .slice (some ⟨g, 0, none⟩) (xs ++ [u]).length cap ∧ w.grownBy w' (some g)) ∨ (w.grownBy w' none ∧ ∃ cap, v' = .slice (some ⟨w.heap.size, 0, none⟩) (xs ++ [u]).length cap)) := by
  obtain ⟨i, hi, hz0, hz1, hz2⟩ := info_parts hinf
  have hnews : ∀ j x, [u][j]? = some x → w.cell? ((⟨g0, 0, none⟩ : Addr).add j) = some x := World.news_of_block hu
  have hlen : (xs ++ [u]).length = xs.length + 1 := by simp
  have grown : ∀ (old : Nat), (w.drew.alloc (.cells (xs.toArray ++ [u].toArray ++ Builtin.zeroCells z.cells (grownCap w (xs.length + 1) old e - (xs.length + 1))) e)).ownsRow B e 1 (.slice (some ⟨w.heap.size, 0, none⟩) (xs.length + 1) (grownCap w (xs.length + 1) old e)) (xs.length + 1) (xs ++ [u]) ∧
      w.grownBy (w.drew.alloc (.cells (xs.toArray ++ [u].toArray ++ Builtin.zeroCells z.cells (grownCap w (xs.length + 1) old e - (xs.length + 1))) e)) none := by
    intro old
    have hge := grownCap_ge w (xs.length + 1) old e
    have hcm : grownCap w (xs.length + 1) old e ≤ maxLen := grownCap_le_maxLen w (xs.length + 1) old e (by simp only [maxLen]; omega)
    refine ⟨⟨by simp, .inr ⟨w.heap.size, _, _, rfl, hbase, heap_alloc_new w.drew _, hge, hcm, ?_, ?_⟩⟩, ⟨rfl, rfl, rfl, by simp, fun k hk _ => heap_alloc_old w.drew _ hk⟩⟩
    · simp only [Array.size_append, List.size_toArray, size_zeroCells, hz, List.length_singleton]
      omega
    · simp only [Array.toList_append, Nat.mul_one]
      rw [← hlen]
      exact List.take_left
  rw [hlen]
  rcases hown.2 with ⟨rfl, h0⟩ | ⟨g, cap, cur, rfl, hbg, hg, hnc, hcm, hcs, htake⟩
  · obtain rfl : xs = [] := List.eq_nil_of_length_eq_zero h0
    have hr := run_append_nil (P := Try.prog) w t ty e i z ht hi hz0 ⟨g0, 0, none⟩ 1 c [u] (by rw [hz1]; rfl) hnews (by omega) (by omega) (by rw [hz2]; simp only [List.length_nil, Nat.zero_add, Nat.one_mul] at hby ⊢; omega)
    have hgr := grown 0
    simp only [List.length_nil, Nat.zero_add, List.nil_append, Array.empty_append] at hgr ⊢
    exact ⟨_, _, hr, hgr.1, .inr ⟨hgr.2, _, rfl⟩⟩
  · by_cases hroom : xs.length + 1 ≤ cap
    · have hfit : xs.length * i.size + [u].length ≤ cur.size := by rw [hz1, hcs]; simp; omega
      have hr := run_append_room (P := Try.prog) w t ty e i ht hi g xs.length cap cur hg ⟨g0, 0, none⟩ 1 c [u] (by rw [hz1]; rfl) hnews (by intro x hx; simp at hx; subst hx; exact h1) hroom hfit
      rw [hz1] at hr
      simp only [Nat.mul_one] at hr htake hcs
      refine ⟨_, _, hr, ⟨by simp, .inr ⟨g, cap, _, rfl, hbg, setRow_heap w g cur _ e _ hg, hroom, hcm, ?_, ?_⟩⟩, .inl ⟨g, cap, rfl, rfl, ⟨rfl, rfl, rfl, by simp, fun k _ hk => setRow_other w g k _ (fun e => hk (by rw [e]))⟩⟩⟩
      · simp only [List.size_toArray, List.length_append, List.length_take, List.length_drop, Array.length_toList, List.length_singleton]
        omega
      · rw [htake, Nat.mul_one, ← hlen]
        exact List.take_left
    · have holds : ∀ j x, xs[j]? = some x → w.cell? ((⟨g, 0, none⟩ : Addr).add j) = some x := hown.cells (g := g) rfl
      have hr := run_append_grow (P := Try.prog) w t ty e i z ht hi hz0 ⟨g, 0, none⟩ xs.length cap xs (by rw [hz1]; simp) holds ⟨g0, 0, none⟩ 1 c [u] (by rw [hz1]; rfl) hnews (by omega) (by omega) (growslice_fits (by omega) (by rw [hz2]; exact hby))
      have hgr := grown cap
      exact ⟨_, _, hr, hgr.1, .inr ⟨hgr.2, _, rfl⟩⟩
end Go.Proofs.Ytekfolppahnpoaa
