import Derived.Test.YtnfikcegmicooabDoorWhQ
namespace Go.Proofs.YtnfikcegmicooabDoor
set_option linter.unusedVariables false
set_option linter.unusedSimpArgs false
open Go.RowKit Go.Maps
def isNil (x : Option Value) : Bool := match x with
  | some (.slice none 0 0) => true
  | _ => false
def isZ (x : Option Value) : Bool := match x with
  | some (.int .u64 z) => z == 0
  | _ => false
theorem isNil_eq {x : Option Value} (h : isNil x = true) : x = some (.slice none 0 0) := by
  unfold isNil at h
  split at h
  · rfl
  · cases h
theorem isZ_eq {x : Option Value} (h : isZ x = true) : x = some (.int .u64 0) := by
  unfold isZ at h
  split at h
  · rename_i z
    have : z = 0 := by simpa using h
    rw [this]
  · cases h
set_option maxRecDepth 100000 in
theorem zero_nil : ((List.range 8).all fun k => (List.range 64).all fun s => isNil Tryd.zeroCells60[2 + 65 * k + s]?) = true := by kernel_rfl
set_option maxRecDepth 100000 in
theorem zero_fl : ((List.range 8).all fun k => isZ Tryd.zeroCells60[2 + 65 * k + 64]?) = true := by kernel_rfl
set_option maxRecDepth 100000 in
theorem zero_sets : isZ Tryd.zeroCells60[1]? = true := by kernel_rfl
set_option maxRecDepth 100000 in
theorem zero_size : Tryd.zeroCells60.size = 523 := by kernel_rfl
theorem new_cells (N m : Nat) : Cells ((Tryd.zeroCells60.setIfInBounds 0 (.int .u64 (N : Int))).setIfInBounds 522 (.map (some m))) N 0 m (fun _ _ => .slice none 0 0) (fun _ => 0) := by
  have hz := zero_size
  have h1 : 0 < Tryd.zeroCells60.size := by rw [hz]; decide
  have h2 : 522 < (Tryd.zeroCells60.setIfInBounds 0 (.int .u64 (N : Int))).size := by rw [Array.size_setIfInBounds, hz]; decide
  refine ⟨by rw [Array.size_setIfInBounds, Array.size_setIfInBounds, hz], ?_, ?_, ?_, fun k s hk hs => ?_, fun k hk => ?_⟩
  · rw [set_get _ h2, if_neg (by decide), set_get _ h1, if_pos rfl]
  · rw [set_get _ h2, if_neg (by decide), set_get _ h1, if_neg (by decide)]
    exact isZ_eq zero_sets
  · rw [set_get _ h2, if_pos rfl]
  · rw [set_get _ h2, if_neg (by omega), set_get _ h1, if_neg (by omega)]
    have h3 := List.all_eq_true.1 zero_nil k (List.mem_range.2 hk)
    exact isNil_eq (List.all_eq_true.1 h3 s (List.mem_range.2 hs))
  · rw [set_get _ h2, if_neg (by omega), set_get _ h1, if_neg (by omega)]
    exact isZ_eq (List.all_eq_true.1 zero_fl k (List.mem_range.2 hk))
set_option maxRecDepth 20000 in
set_option maxHeartbeats 1600000 in
theorem new_t (x : Nat) (w : World) (hw : 0 < w.heap.size) :
    Calls Tryd.prog 17 #[.int .u64 (x : Int)] w fun e w' => ∃ P M V, e = .returned (.tuple #[.pointer (some ⟨P, 0, none⟩), .int .i64 0]) ∧ Wt w' P M (min x mxN) 0 [] V ∧ Below w.heap.size w w' ∧ ∀ b, footW P M V b → w.heap.size ≤ b := by
  have hmm := @run_makeMap Tryd.prog
  go_enter Tryd.func17, Tryd.ntmps17
  go_wp2_with (go_at_call 23; refine Calls.mono (time_t x _) ?_; rintro e w' ⟨rfl, hq⟩; have hq := hq.symm; subst hq)
  go_ret2
  have hfoot : ∀ b, footW (w.heap.size + 1) w.heap.size (fun _ _ => .slice none 0 0) b → w.heap.size ≤ b := by
    rintro b (rfl | rfl | ⟨k, s, -, -, e⟩)
    · omega
    · exact Nat.le_refl _
    · cases e
  have hb : Below w.heap.size w ((w.alloc (Obj.map #[] 0)).alloc (Obj.cells ((Tryd.zeroCells60.setIfInBounds 0 (Value.int IntKind.u64 ((min x mxN : Nat) : Int))).setIfInBounds 522 (Value.map (some w.heap.size))) tWh)) := al (al (Below.refl _ _) _) _
  refine ⟨w.heap.size + 1, w.heap.size, fun _ _ => .slice none 0 0, rfl, ⟨fun _ _ => [], fun _ => ⟨0, 0, 0⟩, ⟨fun _ => 0, ?_, ?_, fun h9 => by have := hfoot 0 h9; omega⟩, ?_, ?_⟩, hb, hfoot⟩
  · refine ⟨⟨_, ?_, new_cells (min x mxN) w.heap.size⟩, fun k s _ _ => World.ownsRow_nil _ _ _ _, (by rintro k s k' s' b - - - - e; cases e), ?_, fun k _ => by decide⟩
    · have := heap_alloc_new (w.alloc (Obj.map #[] 0)) (Obj.cells ((Tryd.zeroCells60.setIfInBounds 0 (Value.int IntKind.u64 ((min x mxN : Nat) : Int))).setIfInBounds 522 (Value.map (some w.heap.size))) tWh)
      rw [World.size_alloc] at this
      exact this
    · refine ⟨⟨.map [], (World.ownsMap_made w Tryd.prog 3 selfR).alloc _, rfl, fun z _ => ?_, fun z hz => by cases hz⟩, List.nodup_nil, fun z hz => by cases hz⟩
      simp [Maps.has]
  · intro k s _ _
    simp
  · exact ⟨fun k s t _ _ => by simp, fun k s _ _ => List.nodup_nil, fun t ht => (by cases ht), fun t ht => (by cases ht), fun t u ht => (by cases ht)⟩
  · exact ⟨Nat.min_le_right _ _, List.nodup_nil, List.Pairwise.nil, fun t ht => (by cases ht), fun t ht => (by cases ht), fun t ht => (by cases ht)⟩
end Go.Proofs.YtnfikcegmicooabDoor
