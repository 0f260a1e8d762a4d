import Derived.Test.YtibolgpaolnheaaQD6
import Derived.Test.YtibolgpaolnheaaZQD5
namespace Go.Proofs.Ytibolgpaolnheaa.Str
set_option linter.unusedVariables false
set_option linter.unusedSimpArgs false
open Go.RowKit
section
set_option maxRecDepth 20000
set_option maxHeartbeats 3200000
variable {w : World} {g n cap : Nat} {vs : List Value}
/-- append of places yet to be filled, where there is no room -/
theorem zeros_run {cur : List Value} (hrow : RowL w g cur) (hcl : cur.length = cap) (i q L : Nat) (hic : i ≤ cap) (hq : 0 < q) (hL : i + q = L) (hgt : cap < L) (hl : L ≤ 4398046511106) :
    ∃ w' g' c' cur', (∀ ty, (Builtin.append_ #[tPsl, 3] ty #[.slice (some ⟨g, 0, none⟩) i cap, .int .i64 (q : Int)]).run Try.prog w = .ok (.slice (some ⟨g', 0, none⟩) L c') w') ∧ RowL w' g' cur' ∧ cur'.length = c' ∧ cur'.take i = cur.take i ∧ L ≤ c' ∧ c' ≤ maxLen ∧ g' = w.heap.size ∧ w.grownBy w' none := by
  subst hL
  obtain ⟨i0, hi, hz0, hz1, hz2⟩ := info_parts info_pg
  have hf := run_firstCells_some (P := Try.prog) w.drew i0.size i ⟨g, 0, none⟩ i cap (cur.take i) (by rw [hz1, Nat.mul_one, List.length_take]; omega) (fun j u hu => by
    rw [Go.WideShapes.add_plain, Nat.zero_add, RowL.cell (RowL.drew hrow)]
    rw [List.getElem?_take] at hu
    split at hu
    · exact hu
    · cases hu)
  have hm : i + q ≤ maxLen := by simp only [maxLen]; omega
  have hge := grownCap_ge w (i + q) cap tPg
  refine ⟨_, w.heap.size, grownCap w (i + q) cap tPg, cur.take i ++ List.replicate q (.slice none 0 0) ++ List.replicate (grownCap w (i + q) cap tPg - (i + q)) (.slice none 0 0), fun ty => Go.Lib.run_append_grow_zeros (P := Try.prog) w tPsl 3 ty tPg i0 (.slice none 0 0) .i64 .i64 Try.underlying68 Try.underlying3 hi hz0 (some ⟨g, 0, none⟩) i cap (cur.take i) hf q hq (by omega) (by omega) (by omega) (by rw [hz2]; omega) (growslice_fits (by omega) (by rw [hz2]; omega)), ?_, ?_, ?_, hge, grownCap_le_maxLen w (i + q) cap tPg hm, rfl, ?_⟩
  · have ez : ∀ m, Builtin.zeroCells (Value.slice none 0 0).cells m = (List.replicate m (Value.slice none 0 0)).toArray := fun m => by
      apply Array.toList_inj.1
      rw [show (Value.slice none 0 0).cells = #[Value.slice none 0 0] from rfl]
      simp [Builtin.zeroCells]
      apply List.ext_getElem
      · simp
      · intro a b c
        simp [Nat.mod_one]
    refine (heap_alloc_new w.drew _).trans ?_
    rw [ez, ez]
    simp
  · simp only [List.length_append, List.length_take, List.length_replicate]
    omega
  · rw [List.append_assoc, List.take_append_of_le_length (by rw [List.length_take]; omega), List.take_take, Nat.min_self]
  · exact ⟨rfl, rfl, rfl, by simp, fun k hk _ => Below.heap_alloc w.drew _ k hk⟩
end
end Go.Proofs.Ytibolgpaolnheaa.Str
