import Derived.Test.YthpebfibpopinaaGreatDoorBNp
import Derived.Deep.CutRange
namespace Go.Proofs.YthpebfibpopinaaGreatDoor
set_option linter.unusedVariables false
set_option linter.unusedSimpArgs false
open Go.RowKit
abbrev tFr : TypeId := 46
theorem info_fr : (Tryz.prog.info? tFr).map (·.size) = some 5 := by kernel_rfl
theorem exec_load {P : Program} {a : Act} {oi : Oper} {t : TypeId} {x : Operand} (ho : oi.op = .load t x) {v : Value} {w : World} (h : (Instr.loadAt t (a.eval x)).run P w = .ok v w) : (execOp a.eval oi).run P w = .ok (.value v) w := by
  unfold execOp
  simp only [ho, Sem.run_bind, h, Result.andThen_ok]
  rfl
theorem box_range {w : World} {b : Nat} {cs : List Value} {t : TypeId} (h : w.heap[b]? = some (.cells cs.toArray t (0, 0))) : w.rangeAt b 0 cs := fun j v hv => by
  rw [cell_of_row _ _ _ _ _ _ h, Nat.zero_add]
  simpa using hv
theorem setCells_grown (g : Nat) : ∀ (cs : List Value) (o : Nat) (w : World), w.grownBy (w.setCells g o cs) (some g)
  | [], _, w => World.grownBy.refl _ _
  | v :: r, o, w => by
    rw [World.setCells]
    have h1 : w.grownBy (w.setCell ⟨g, o, none⟩ v) (some g) := ⟨rfl, rfl, rfl, by simp, fun k _ hne => heap_setCell_other _ _ _ _ (fun e => hne (by rw [e]))⟩
    have h2 := setCells_grown g r (o + 1) (w.setCell ⟨g, o, none⟩ v)
    exact ⟨h2.os.trans h1.os, h2.tape.trans h1.tape, h2.output.trans h1.output, Nat.le_trans h1.size h2.size, fun k hk hne => (h2.block k (Nat.lt_of_lt_of_le hk h1.size) hne).trans (h1.block k hk hne)⟩
theorem results_c3 {fn : Func} {p u v : Tmp} {ty : TypeId} (h : fn.results = #[.cell p ty, .tmp u, .tmp v]) (tmps : Array Value) (P : Program) (w : World) (g : Nat) (cs : List Value) (d : TypeDesc)
    (hp : tmps.getD p undef = .pointer (some ⟨g, 0, none⟩)) (hr : w.rangeAt g 0 cs)
    (hu : P.underlying ty = some d) (hd : d.isRow = true) (hi : (P.info? ty).map (·.size) = some cs.length) :
    (results fn tmps).run P w = .ok (.tuple #[.agg cs.toArray, tmps.getD u undef, tmps.getD v undef]) w := by
  have h9 := run_loadVar_mid (P := P) w g 0 ty cs d hr hu hd hi
  simp only [Array.getD_eq_getD_getElem?] at hp
  simp [results, h, hp, asAddr, h9]
abbrev z1 : List Value := [.int .i64 0, .int .u64 0, .int .u64 0, .int .u64 0, .slice none 0 0]
abbrev f1 : List Value := [.int .i64 0, .int .u64 1, .int .u64 0, .int .u64 1, .slice none 0 0]
section
set_option maxRecDepth 20000
set_option maxHeartbeats 3200000
variable {w : World} {g : Nat}
theorem put_z (hc : w.cell? ⟨g, 0, none⟩ = some (.pointer none)) : Calls Tryz.prog 5 #[.pointer (some ⟨g, 0, none⟩), .int .i64 0, .int .u64 1, .int .u64 1, .slice none 0 0, .int .u64 0] w fun e w' => e = .returned (.tuple #[zf, .bool false, .int .i64 1]) ∧ Below w.heap.size w w' := by
  obtain ⟨w1, hw1⟩ : ∃ X : World, X = w.alloc (.cells #[.int .i64 0, .int .u64 1, .int .u64 0, .int .u64 1, .slice none 0 0] tFr) := ⟨_, rfl⟩
  have HB1 : Hid (Below w.heap.size w w1) := (show Below _ _ _ by rw [hw1]; exact al (Below.refl _ _) _)
  have HX1 : Hid (w1.heap[w.heap.size]? = some (.cells f1.toArray tFr (0, 0))) := (show _ = _ by rw [hw1]; exact heap_alloc_new w _)
  have H : Hid (∀ o1, Calls Tryz.prog 15 #[.pointer (some ⟨g, 0, none⟩), .int .i64 0] (w.alloc o1) fun e w' => e = .returned (.int .u64 0) ∧ w' = w.alloc o1) := (fun o1 => next_z (below_cl (al (Below.refl _ _) o1) hc) 0)
  have HC : Hid (w.cell? ⟨g, 0, none⟩ = some (.pointer none)) := hc
  clear hc
  go_enter Tryz.func5, Tryz.ntmps5
  go_wp2_with fail
  refine Calls.mono (H.out _) ?_
  rintro e w2 ⟨rfl, hw⟩
  subst hw
  go_upto_region 2 with fail
  rw [← hw1]
  have HW1 : Hid _ := hw1
  clear hw1
  have hl1 : ∀ u, Below w1.heap.size w1 u → (Instr.loadAt tFr (.pointer (some ⟨w.heap.size, 0, none⟩))).run Tryz.prog u = .ok (.agg f1.toArray) u := fun u hu => run_loadAt_mid u _ _ _ f1 _ (box_range ((hu.block _ (Array.getElem?_eq_some_iff.1 HX1.out).1).trans HX1.out)) Tryz.underlying46 rfl info_fr
  refine wp_region_held_drew (S := (fun u => Below w1.heap.size w1 u)) (by kernel_rfl) (by first | exact (Below.refl _ _).drew | assumption) (fun hHeld => ?_)
  refine take_at (i := 0) 25 (v := ?_) rfl rfl (by kernel_rfl) (by kernel_rfl) (by kernel_rfl) (fun _ _ _ h => h) (by rfl) ?_ hHeld ?_
  rotate_left
  · (intro w hSw; (try dsimp only at hSw); go_simp; try with_reducible rfl)
  simp only [Act.put, List.setIfInBounds_toArray, List.set_cons_zero, List.set_cons_succ]
  refine take_at (i := 1) 26 (v := .agg f1.toArray) rfl rfl (by kernel_rfl) (by kernel_rfl) (by kernel_rfl) (fun _ _ _ h => h) (by rfl) ?_ hHeld ?_
  · (intro w hSw; refine exec_load (by rfl) ?_; exact hl1 w hSw)
  simp only [Act.put, List.setIfInBounds_toArray, List.set_cons_zero, List.set_cons_succ]
  refine take_at (i := 2) 27 (v := ?_) rfl rfl (by kernel_rfl) (by kernel_rfl) (by kernel_rfl) (fun _ _ _ h => h) (by rfl) ?_ hHeld ?_
  rotate_left
  · (intro w hSw; (try dsimp only at hSw); go_simp; try with_reducible rfl)
  simp only [Act.put, List.setIfInBounds_toArray, List.set_cons_zero, List.set_cons_succ]
  refine run_at (i := 3) rfl (by kernel_rfl) (by rfl) (fun K hK => ?_)
  simp only [List.getElem_toArray, List.getElem_cons_zero, List.getElem_cons_succ]
  go_simp
  first | (go_at_call 21; refine Calls.mono (clock_z _) ?_; rintro e u2 ⟨rfl, hu2⟩; have hb2 : Below w1.heap.size w1 u2 := (by rw [hu2]; exact (Below.refl _ _).drew); clear hu2) | (go_at_call 20; refine Calls.mono (refuses_z (below_cl (below_next HB1.out hb2) HC.out) 0) ?_; rintro e u3 ⟨rfl, hu3⟩; have hb3 : Below w1.heap.size w1 u3 := below_next hb2 hu3; clear hu3)
  go_wp2_with fail
  refine hK.out _ _ (by first | exact (Below.refl _ _).drew | assumption) ?_
  clear hK K
  intro hHeld2
  clear hHeld
  have hHeld := hHeld2
  clear hHeld2
  try simp only [Act.put, List.setIfInBounds_toArray, List.set_cons_zero, List.set_cons_succ]
  refine run_at (i := 4) rfl (by kernel_rfl) (by rfl) (fun K hK => ?_)
  simp only [List.getElem_toArray, List.getElem_cons_zero, List.getElem_cons_succ]
  go_simp
  first | (go_at_call 21; refine Calls.mono (clock_z _) ?_; rintro e u2 ⟨rfl, hu2⟩; have hb2 : Below w1.heap.size w1 u2 := (by rw [hu2]; exact (Below.refl _ _).drew); clear hu2) | (go_at_call 20; refine Calls.mono (refuses_z (below_cl (below_next HB1.out hb2) HC.out) 0) ?_; rintro e u3 ⟨rfl, hu3⟩; have hb3 : Below w1.heap.size w1 u3 := below_next hb2 hu3; clear hu3)
  go_wp2_with fail
  refine hK.out _ _ (by first | exact (Below.refl _ _).drew | assumption) ?_
  clear hK K
  intro hHeld2
  clear hHeld
  have hHeld := hHeld2
  clear hHeld2
  try simp only [Act.put, List.setIfInBounds_toArray, List.set_cons_zero, List.set_cons_succ]
  refine take_at (i := 5) 15 (v := ?_) rfl rfl (by kernel_rfl) (by kernel_rfl) (by kernel_rfl) (fun _ _ _ h => h) (by rfl) ?_ hHeld ?_
  rotate_left
  · (intro w hSw; (try dsimp only at hSw); go_simp; try with_reducible rfl)
  simp only [Act.put, List.setIfInBounds_toArray, List.set_cons_zero, List.set_cons_succ]
  refine wpAnyH_done (by kernel_rfl) ?_ _
  have HB3 : Hid (Below w1.heap.size w1 u3) := hb3
  have HX3 : Hid (u3.heap[w.heap.size]? = some (.cells f1.toArray tFr (0, 0))) := (hb3.block _ (Array.getElem?_eq_some_iff.1 HX1.out).1).trans HX1.out
  clear hb3 hb2 hl1 hHeld
  have hX3 := HX3.out
  have hc0 : u3.cell? ⟨w.heap.size, 0, none⟩ = some (.int .i64 0) := by rw [cell_of_row _ _ _ _ _ _ hX3]; rfl
  have hc1 : u3.cell? ⟨w.heap.size, 1, none⟩ = some (.int .u64 1) := by rw [cell_of_row _ _ _ _ _ _ hX3]; rfl
  have hc2 : u3.cell? ⟨w.heap.size, 2, none⟩ = some (.int .u64 0) := by rw [cell_of_row _ _ _ _ _ _ hX3]; rfl
  have hc3 : u3.cell? ⟨w.heap.size, 3, none⟩ = some (.int .u64 1) := by rw [cell_of_row _ _ _ _ _ _ hX3]; rfl
  have hc4 : u3.cell? ⟨w.heap.size, 4, none⟩ = some (.slice none 0 0) := by rw [cell_of_row _ _ _ _ _ _ hX3]; rfl
  have hf0 : u3.frozen? ⟨w.heap.size, 0, none⟩ = false := by simp [World.frozen?, hX3]
  have hf1 : u3.frozen? ⟨w.heap.size, 1, none⟩ = false := by simp [World.frozen?, hX3]
  have hf2 : u3.frozen? ⟨w.heap.size, 2, none⟩ = false := by simp [World.frozen?, hX3]
  have hf3 : u3.frozen? ⟨w.heap.size, 3, none⟩ = false := by simp [World.frozen?, hX3]
  have hf4 : u3.frozen? ⟨w.heap.size, 4, none⟩ = false := by simp [World.frozen?, hX3]
  clear hX3
  go_wp2
  have hBZ : Below w.heap.size w (u3.setCells w.heap.size 0 z1) := (below_next HB1.out HB3.out).grown (setCells_grown _ _ _ _) (below_next HB1.out HB3.out).size (fun k hk => by cases hk; exact Nat.le_refl _)
  refine bodyPost_ret (v := .tuple #[zf, .bool false, .int .i64 1]) (by simp [results, Tryz.results5, go_sem, hc0, hc1, hc2, hc3, hc4]) rfl ?_
  exact ⟨rfl, hBZ⟩
end
end Go.Proofs.YthpebfibpopinaaGreatDoor
