import Derived.Test.YtgdkiejlggiakaaDEq
import Derived.Lib.BufferOwn
import Derived.Laws.ResultCell
namespace Go.Proofs.Ytgdkiejlggiakaa
set_option linter.unusedVariables false
set_option linter.unusedSimpArgs false
open Go.RowKit
theorem Rd.tail {w : World} {b o : Nat} {c : UInt8} {xs : List UInt8} (h : Rd w (some ⟨b, o, none⟩) (c :: xs)) : Rd w (some ⟨b, o + 1, none⟩) xs := by
  intro hp
  obtain ⟨b', o', e, hc⟩ := h (by simp)
  cases e
  refine ⟨_, _, rfl, fun i hi => ?_⟩
  have := hc (i + 1) (by simp; omega)
  rw [show o + 1 + i = o + (i + 1) from by omega, this]
  simp
theorem Rd.head {w : World} {b o : Nat} {c : UInt8} {xs : List UInt8} (h : Rd w (some ⟨b, o, none⟩) (c :: xs)) : w.cell? ⟨b, o, none⟩ = some (.int .u8 (c.toNat : Int)) := by
  obtain ⟨b', o', e, hc⟩ := h (by simp)
  cases e
  exact hc 0 (by simp)
/-- a sector's cells -/
def secV (xs : List UInt8) (t : Bool) : List Value := bv xs ++ [.bool t]
theorem secV_len (xs : List UInt8) (t : Bool) (h : xs.length = 128) : (secV xs t).length = 129 := by simp [secV, bv_length, h]
theorem secV_one (xs : List UInt8) (t : Bool) : ∀ v ∈ secV xs t, v.oneCell' = true := by
  intro v hv
  simp only [secV, List.mem_append, List.mem_singleton] at hv
  rcases hv with h | rfl
  · exact bv_one xs v h
  · rfl
theorem al {w w1 : World} (h : Below w.heap.size w w1) (o : Obj) : Below w.heap.size w (w1.alloc o) := h.alloc h.size o
theorem below_setCells {B g : Nat} {w0 w : World} (hb : Below B w0 w) (hBg : B ≤ g) (o : Nat) (cs : List Value) : Below B w0 (w.setCells g o cs) :=
  hb.trans ⟨(setCells_grown g cs o w).os, (setCells_grown g cs o w).tape, (setCells_grown g cs o w).output, (setCells_grown g cs o w).size, fun k hk => heap_setCells_far g cs o w k (by omega)⟩
theorem exec_build {P : Program} {a : Act} {oi : Oper} {t : TypeId} {parts : Array (Nat × Operand)} (ho : oi.op = .build t parts) {cells : Array Value} {w : World} (h : (Instr.build t (parts.map fun (i, x) => (i, a.eval x))).run P w = .ok (.agg cells) w) : (execOp a.eval oi).run P w = .ok (.value (.agg cells)) w := by
  unfold execOp
  simp only [ho, Sem.run_bind, h, Result.andThen_ok]
  rfl
theorem gr_below {a w w' : World} {row : Option Nat} (h : a.grownBy w row) (hb : Below w.heap.size w w') : a.grownBy w' row := Lib.grownBy_below h hb
theorem gr_drw {w : World} (row : Option Nat) : w.grownBy w.drew row := gr_below (World.grownBy.refl _ _) (Below.refl _ _).drew
theorem gr_cells {a w : World} {p : Nat} (h : a.grownBy w (some p)) (o : Nat) (cs : List Value) : a.grownBy (w.setCells p o cs) (some p) := h.trans' (setCells_grown p cs o w)
theorem exec_load {P : Program} {a : Act} {oi : Oper} {t : TypeId} {x : Operand} (ho : oi.op = .load t x) {v : Value} {w : World} (h : (Instr.loadAt t (a.eval x)).run P w = .ok v w) : (execOp a.eval oi).run P w = .ok (.value v) w := by
  unfold execOp
  simp only [ho, Sem.run_bind, h, Result.andThen_ok]
  rfl
/-- a sector and a flag, handed back -/
theorem results_sec {fn : Func} {p u : Tmp} {ty : TypeId} (h : fn.results = #[.cell p ty, .tmp u]) (tmps : Array Value) (P : Program) (w : World) (g : Nat) (t : TypeId) (cs : List Value) (fr : Nat × Nat) (d : TypeDesc)
    (hp : tmps.getD p undef = .pointer (some ⟨g, 0, none⟩)) (hg : w.heap[g]? = some (.cells cs.toArray t fr))
    (hu : P.underlying ty = some d) (hd : d.isRow = true) (hi : (P.info? ty).map (·.size) = some cs.length) :
    (results fn tmps).run P w = .ok (.tuple #[.agg cs.toArray, tmps.getD u undef]) w := by
  rw [results_cell_tmp h, hp]
  have hr : w.rangeAt g 0 cs := fun j v hv => by
    rw [Nat.zero_add, cell_of_row _ _ j _ _ _ hg]
    simpa using hv
  simp only [asAddr, Sem.run_pure, Result.andThen_ok, run_loadVar_mid w g 0 ty cs d hr hu hd hi]
theorem there_new (w : World) (Z : Array Value) (t : TypeId) (n : Nat) (hn : n ≤ Z.size) : (w.alloc (.cells Z t)).there w.heap.size 0 n := by
  intro j hj
  have h := heap_alloc_new w (.cells Z t)
  refine ⟨?_, ?_⟩
  · rw [Nat.zero_add, cell_of_row _ _ j _ _ _ h]
    simp; omega
  · rw [Nat.zero_add]; exact frozen_of_row _ _ j _ _ h
theorem there_row {w : World} {g n : Nat} {Z : Array Value} {t : TypeId} (h : w.heap[g]? = some (.cells Z t (0, 0)) ∧ n ≤ Z.size) : w.there g 0 n := by
  intro j hj
  refine ⟨?_, ?_⟩
  · rw [Nat.zero_add, cell_of_row _ _ j _ _ _ h.1]
    simp; omega
  · rw [Nat.zero_add]; exact frozen_of_row _ _ j _ _ h.1
theorem there_below {w w' : World} {b o n : Nat} (h : w.there b o n) (hb : Below w.heap.size w w') : w'.there b o n := by
  intro j hj
  obtain ⟨h1, h2⟩ := h j hj
  obtain ⟨u, hu⟩ := Option.isSome_iff_exists.1 h1
  have hlt := World.block_lt_of_cell? w _ hu
  exact ⟨by rw [hb.cell (p := ⟨b, o + j, none⟩) hlt]; exact h1, by rw [hb.frozen (p := ⟨b, o + j, none⟩) hlt]; exact h2⟩
set_option maxRecDepth 20000 in
set_option maxHeartbeats 800000 in
theorem sectorOf_x (b o : Nat) (c : UInt8) (xs : List UInt8) (w : World) (hx : Rd w (some ⟨b, o, none⟩) (c :: xs)) (hl : xs.length = 128) (t0 t1 te : Bool) (ht0 : ((c.toNat : Int) == 0) = t0) (ht1 : ((c.toNat : Int) == 1) = t1) (hte : xs.all (· == 0) = te) :
    Calls Try.prog 27 #[.slice (some ⟨b, o, none⟩) 129 129] w fun e w' => e = .returned (.tuple #[.agg (secV xs t1).toArray, .bool (t0 || (t1 && te))]) ∧ Below w.heap.size w w' := by
  have hz := (zero_of_info info_sect).1
  obtain ⟨Z, hZ⟩ : ∃ Z : Array Value, Z = z129 := ⟨_, rfl⟩
  rw [← hZ] at hz
  have HZ : Hid (Z = z129) := hZ
  clear hZ
  have HZs : Hid (Z.size = 129) := by unfold Hid; rw [HZ.out]; exact z129_size
  obtain ⟨W, hW⟩ : ∃ W : World, W = w.alloc (.cells Z 61) := ⟨_, rfl⟩
  have hbW : Below w.heap.size w W := by rw [hW]; exact al (Below.refl _ _) _
  have HR : Hid (W.heap[w.heap.size]? = some (.cells Z 61 (0, 0))) := by unfold Hid; rw [hW]; exact heap_alloc_new w _
  have hx' := hx.below hbW
  have hc0 := hx'.head
  have hcb := fun u (hu : Below W.heap.size W u) => (hu.cell (p := ⟨b, o, none⟩) (World.block_lt_of_cell? W _ hc0)).trans hc0
  have HXT : Hid (Rd W (some ⟨b, o + 1, none⟩) xs) := hx'.tail
  obtain ⟨X, hX⟩ : ∃ X : List Value, X = bv xs := ⟨_, rfl⟩
  have HX : Hid (X = bv xs) := hX
  have HXl : Hid (X.length = 128) := by unfold Hid; rw [hX, bv_length, hl]
  have hbd := run_build_sec X HXl.out t1
  obtain ⟨Y, hY⟩ : ∃ Y : List Value, Y = X ++ [Value.bool t1] := ⟨_, rfl⟩
  rw [← hY] at hbd
  have HY : Hid (Y = secV xs t1) := by unfold Hid; rw [hY, hX]; rfl
  have HYl : Hid (Y.length = 129) := by unfold Hid; rw [HY.out]; exact secV_len xs t1 hl
  have HYs : Hid (Y.toArray.size = 129) := by unfold Hid; rw [List.size_toArray]; exact HYl.out
  have HY1 : Hid (∀ v ∈ Y, v.oneCell' = true) := by unfold Hid; rw [HY.out]; exact secV_one xs t1
  have htx : ∀ u, Rd u (some ⟨b, o + 1, none⟩) xs → Calls Try.prog 34 #[.slice (some ⟨b, o + 1, none⟩) 128 128] u fun e w' => e = .returned (.agg X.toArray) ∧ Below u.heap.size u w' := by
    intro u hu
    rw [hX]
    exact textOf_t _ _ xs u hu hl
  have HTX : Hid _ := htx
  have HIs : Hid ((Try.prog.info? 61).map (·.size) = some 129) := (zero_of_info info_sect).2
  have hbw : b < w.heap.size := World.block_lt_of_cell? w _ hx.head
  have HIt : Hid ((Try.prog.info? 59).map (·.size) = some 128) := (zero_of_info info_text).2
  have HYX : Hid ((Y.toArray.extract 0 (0 + 128)).toList = X) := by unfold Hid; rw [hY]; simp [HXl.out]
  have HY128 : Hid (Y.toArray[128]? = some (.bool t1)) := by unfold Hid; rw [hY]; simp [HXl.out]
  have hx0 := hx
  obtain ⟨Z8, hZ8⟩ : ∃ Z8 : Array Value, Z8 = z128 := ⟨_, rfl⟩
  have hbt : ∀ u, (Instr.build 59 #[]).run Try.prog u = .ok (.agg Z8) u := by rw [hZ8]; exact build_text
  have heq : ∀ u, (Op.equalIn 10000 59 (.agg X.toArray) (.agg Z8)).run Try.prog u = .ok te u := by rw [hX, hZ8, ← hte]; exact eq_text 9998 xs hl
  clear hZ8
  clear hx hx' hX hY htx
  have HW : Hid (W = w.alloc (.cells Z 61)) := hW
  go_enter Try.func27, Try.ntmps27
  go_wp2_with fail
  rw [← hW]
  clear hW
  refine wp_region_noPanic ?_
  refine wp_region_held_drew (S := (fun u => Below W.heap.size W u)) (by kernel_rfl) (by with_reducible first | assumption | exact (Below.refl _ _).drew | exact al (by assumption) _ | exact (al (Below.refl _ _) _).drew | exact below_setCells (by assumption) (Nat.le_refl _) _ _ | exact below_setCells (al (by assumption) _) (by have := hS1.size; exact this) _ _) (fun hHeld => ?_)
  refine take_at (i := 0) 5 (v := ?_) rfl rfl (by kernel_rfl) (by kernel_rfl) (by kernel_rfl) (fun _ _ _ h => h) (by rfl) ?_ hHeld ?_
  rotate_left
  · (intro w hSw; (try dsimp only at hSw); go_simp; try with_reducible rfl)
  simp only [Act.put, List.setIfInBounds_toArray, List.set_cons_zero, List.set_cons_succ]
  refine take_at (i := 1) 6 (v := ?_) rfl rfl (by kernel_rfl) (by kernel_rfl) (by kernel_rfl) (fun _ _ _ h => h) (by rfl) ?_ hHeld ?_
  rotate_left
  · (intro w hSw; (try dsimp only at hSw); go_simp; try with_reducible rfl)
  simp only [Act.put, List.setIfInBounds_toArray, List.set_cons_zero, List.set_cons_succ]
  refine take_at (i := 3) 8 (v := ?_) rfl rfl (by kernel_rfl) (by kernel_rfl) (by kernel_rfl) (fun _ _ _ h => h) (by rfl) ?_ hHeld ?_
  rotate_left
  · (intro w hSw; (try dsimp only at hSw); go_simp; try with_reducible rfl)
  simp only [Act.put, List.setIfInBounds_toArray, List.set_cons_zero, List.set_cons_succ]
  refine take_at (i := 4) 9 (v := ?_) rfl rfl (by kernel_rfl) (by kernel_rfl) (by kernel_rfl) (fun _ _ _ h => h) (by rfl) ?_ hHeld ?_
  rotate_left
  · (intro w hSw; (try dsimp only at hSw); go_simp; try with_reducible rfl)
  simp only [Act.put, List.setIfInBounds_toArray, List.set_cons_zero, List.set_cons_succ]
  refine take_at (i := 5) 10 (v := ?_) rfl rfl (by kernel_rfl) (by kernel_rfl) (by kernel_rfl) (fun _ _ _ h => h) (by rfl) ?_ hHeld ?_
  rotate_left
  · (intro w hSw; (try dsimp only at hSw); go_simp; try with_reducible rfl)
  simp only [Act.put, List.setIfInBounds_toArray, List.set_cons_zero, List.set_cons_succ]
  refine take_at (i := 6) 11 (v := ?_) rfl rfl (by kernel_rfl) (by kernel_rfl) (by kernel_rfl) (fun _ _ _ h => h) (by rfl) ?_ hHeld ?_
  rotate_left
  · (intro w hSw; (try dsimp only at hSw); go_simp; try with_reducible rfl)
  simp only [Act.put, List.setIfInBounds_toArray, List.set_cons_zero, List.set_cons_succ]
  refine wpAnyH_ready (rs := [2, 8]) (by kernel_rfl) (by simp) ?_
  refine AllReadyH.cons (o := _) rfl (fun K hK => ?_) ?_
  focus
    rw [if_pos (by rfl)]
    simp only [List.getElem_toArray, List.getElem_cons_zero, List.getElem_cons_succ]
    go_simp
    first | (go_at_call 34; refine (HTX.out _ (HXT.out.below (by first | assumption | exact (Below.refl _ _).drew | exact al (by assumption) _))).mono ?_; rintro e w1 ⟨rfl, hb1⟩; have hS1 := below_next (B := W) (by first | assumption | exact (Below.refl _ _).drew | exact al (by assumption) _) hb1)
    go_wp2_with fail
    refine hK.out _ _ (by with_reducible first | assumption | exact (Below.refl _ _).drew | exact al (by assumption) _ | exact (al (Below.refl _ _) _).drew | exact below_setCells (by assumption) (Nat.le_refl _) _ _ | exact below_setCells (al (by assumption) _) (by have := hS1.size; exact this) _ _) ?_
    clear hK K
    intro hHeld2
    clear hHeld
    have hHeld := hHeld2
    clear hHeld2
    try simp only [Act.put, List.setIfInBounds_toArray, List.set_cons_zero, List.set_cons_succ]
    refine take_at (i := 7) 12 (v := .agg Y.toArray) rfl rfl (by kernel_rfl) (by kernel_rfl) (by kernel_rfl) (fun _ _ _ h => h) (by rfl) ?_ hHeld ?_
    · (intro w hSw; refine exec_build (by rfl) ?_; simp only [List.map_toArray, List.map_cons, List.map_nil]; exact hbd w)
    simp only [Act.put, List.setIfInBounds_toArray, List.set_cons_zero, List.set_cons_succ]
    refine run_at (i := 8) rfl (by kernel_rfl) (by rfl) (fun K hK => ?_)
    simp only [List.getElem_toArray, List.getElem_cons_zero, List.getElem_cons_succ]
    go_simp
    go_wp2_with fail
    refine hK.out _ _ (by with_reducible first | assumption | exact (Below.refl _ _).drew | exact al (by assumption) _ | exact (al (Below.refl _ _) _).drew | exact below_setCells (by assumption) (Nat.le_refl _) _ _ | exact below_setCells (al (by assumption) _) (by have := hS1.size; exact this) _ _) ?_
    clear hK K
    intro hHeld2
    clear hHeld
    have hHeld := hHeld2
    clear hHeld2
    try simp only [Act.put, List.setIfInBounds_toArray, List.set_cons_zero, List.set_cons_succ]
    refine run_at (i := 9) rfl (by kernel_rfl) (by rfl) (fun K hK => ?_)
    simp only [List.getElem_toArray, List.getElem_cons_zero, List.getElem_cons_succ]
    refine wp_store_mid 61 _ _ rfl _ 0 Y.toArray rfl rfl (by rw [HYs.out]; first | exact there_new _ Z _ 129 (by rw [HZs.out]; exact Nat.le_refl _) | exact there_below (there_new W Z 61 129 (by rw [HZs.out]; exact Nat.le_refl _)) (below_next (Below.refl _ _).drew hb1)) (by rw [HIs.out, HYs.out]) (all_oneCell_toArray HY1.out) ?_
    refine hK.out _ _ (by with_reducible first | assumption | exact (Below.refl _ _).drew | exact al (by assumption) _ | exact (al (Below.refl _ _) _).drew | exact below_setCells (by assumption) (Nat.le_refl _) _ _ | exact below_setCells (al (by assumption) _) (by have := hS1.size; exact this) _ _) ?_
    clear hK K
    intro hHeld2
    clear hHeld
    have hHeld := hHeld2
    clear hHeld2
    try simp only [Act.put, List.setIfInBounds_toArray, List.set_cons_zero, List.set_cons_succ]
    refine wpAnyH_done (by kernel_rfl) ?_ _
    refine NoPanic.normal ?_
  rotate_left 1
  refine AllReadyH.cons (o := _) rfl (fun K hK => ?_) AllReadyH.nil
  focus
    rw [if_pos (by rfl)]
    simp only [List.getElem_toArray, List.getElem_cons_zero, List.getElem_cons_succ]
    go_simp
    go_wp2_with fail
    refine hK.out _ _ (by with_reducible first | assumption | exact (Below.refl _ _).drew | exact al (by assumption) _ | exact (al (Below.refl _ _) _).drew | exact below_setCells (by assumption) (Nat.le_refl _) _ _ | exact below_setCells (al (by assumption) _) (by have := hS1.size; exact this) _ _) ?_
    clear hK K
    intro hHeld2
    clear hHeld
    have hHeld := hHeld2
    clear hHeld2
    try simp only [Act.put, List.setIfInBounds_toArray, List.set_cons_zero, List.set_cons_succ]
    refine run_at (i := 2) rfl (by kernel_rfl) (by rfl) (fun K hK => ?_)
    simp only [List.getElem_toArray, List.getElem_cons_zero, List.getElem_cons_succ]
    go_simp
    first | (go_at_call 34; refine (HTX.out _ (HXT.out.below (by first | assumption | exact (Below.refl _ _).drew | exact al (by assumption) _))).mono ?_; rintro e w1 ⟨rfl, hb1⟩; have hS1 := below_next (B := W) (by first | assumption | exact (Below.refl _ _).drew | exact al (by assumption) _) hb1)
    go_wp2_with fail
    refine hK.out _ _ (by with_reducible first | assumption | exact (Below.refl _ _).drew | exact al (by assumption) _ | exact (al (Below.refl _ _) _).drew | exact below_setCells (by assumption) (Nat.le_refl _) _ _ | exact below_setCells (al (by assumption) _) (by have := hS1.size; exact this) _ _) ?_
    clear hK K
    intro hHeld2
    clear hHeld
    have hHeld := hHeld2
    clear hHeld2
    try simp only [Act.put, List.setIfInBounds_toArray, List.set_cons_zero, List.set_cons_succ]
    refine take_at (i := 7) 12 (v := .agg Y.toArray) rfl rfl (by kernel_rfl) (by kernel_rfl) (by kernel_rfl) (fun _ _ _ h => h) (by rfl) ?_ hHeld ?_
    · (intro w hSw; refine exec_build (by rfl) ?_; simp only [List.map_toArray, List.map_cons, List.map_nil]; exact hbd w)
    simp only [Act.put, List.setIfInBounds_toArray, List.set_cons_zero, List.set_cons_succ]
    refine run_at (i := 9) rfl (by kernel_rfl) (by rfl) (fun K hK => ?_)
    simp only [List.getElem_toArray, List.getElem_cons_zero, List.getElem_cons_succ]
    refine wp_store_mid 61 _ _ rfl _ 0 Y.toArray rfl rfl (by rw [HYs.out]; first | exact there_new _ Z _ 129 (by rw [HZs.out]; exact Nat.le_refl _) | exact there_below (there_new W Z 61 129 (by rw [HZs.out]; exact Nat.le_refl _)) (below_next (Below.refl _ _).drew hb1)) (by rw [HIs.out, HYs.out]) (all_oneCell_toArray HY1.out) ?_
    refine hK.out _ _ (by with_reducible first | assumption | exact (Below.refl _ _).drew | exact al (by assumption) _ | exact (al (Below.refl _ _) _).drew | exact below_setCells (by assumption) (Nat.le_refl _) _ _ | exact below_setCells (al (by assumption) _) (by have := hS1.size; exact this) _ _) ?_
    clear hK K
    intro hHeld2
    clear hHeld
    have hHeld := hHeld2
    clear hHeld2
    try simp only [Act.put, List.setIfInBounds_toArray, List.set_cons_zero, List.set_cons_succ]
    refine wpAnyH_done (by kernel_rfl) ?_ _
    refine NoPanic.normal ?_
  all_goals
    first
    | (obtain ⟨U, hU⟩ : ∃ U : World, U = (w1.alloc (.cells Z 61)).setCells w1.heap.size 0 Y := ⟨_, rfl⟩
       obtain ⟨G, hG⟩ : ∃ G : Nat, G = w1.heap.size := ⟨_, rfl⟩
       have hUG : U.heap[G]? = some (.cells Y.toArray 61 (0, 0)) := by
         rw [hU, hG, heap_setCells _ _ _ _ Z.toList _ (by rw [Array.toArray_toList]; exact heap_alloc_new w1 _) (by rw [HYl.out, Array.length_toList, HZs.out]; decide), splice_all _ _ (by rw [HYl.out, Array.length_toList, HZs.out])]
       have hUW : Below W.heap.size W U := by rw [hU]; exact below_setCells (al hS1 _) hS1.size _ _
       have hGW : W.heap.size ≤ G := by rw [hG]; exact hS1.size
       rw [← hU, ← hG]
       clear hU hG)
    | (obtain ⟨U, hU⟩ : ∃ U : World, U = w1.setCells W.heap.size 0 Y := ⟨_, rfl⟩
       obtain ⟨G, hG⟩ : ∃ G : Nat, G = W.heap.size := ⟨_, rfl⟩
       have hUG : U.heap[G]? = some (.cells Y.toArray 61 (0, 0)) := by
         rw [hU, hG, heap_setCells _ _ _ _ Z.toList _ (by rw [Array.toArray_toList]; exact ((below_next (Below.refl _ _).drew hb1).block W.heap.size (by simp)).trans (heap_alloc_new W _)) (by rw [HYl.out, Array.length_toList, HZs.out]; decide), splice_all _ _ (by rw [HYl.out, Array.length_toList, HZs.out])]
       have hUW : Below W.heap.size W U := by rw [hU]; exact below_setCells hS1 (Nat.le_refl _) _ _
       have hGW : W.heap.size ≤ G := by rw [hG]; exact Nat.le_refl _
       rw [← hU, ← hG]
       clear hU hG)
    clear hHeld hS1 hb1
    have hlt : w.heap.size < W.heap.size := by rw [HW.out]; simp
    have hne : G ≠ w.heap.size := by omega
    have hUR := (hUW.block w.heap.size hlt).trans HR.out
    have hgg : ∀ u, U.grownBy u (some w.heap.size) → u.heap[G]? = some (.cells Y.toArray 61 (0, 0)) := fun u hu => (hu.block G (Array.getElem?_eq_some_iff.1 hUG).1 (by simpa using hne)).trans hUG
    have hbl : b < w.heap.size := hbw
    have hcb2 : ∀ u, U.grownBy u (some w.heap.size) → u.cell? ⟨b, o, none⟩ = some (.int .u8 (c.toNat : Int)) := fun u hu => hu.cell (hcb U hUW) (by simp; omega)
    have hl61 : ∀ u, U.grownBy u (some w.heap.size) → (Instr.loadAt 61 (.pointer (some ⟨G, 0, none⟩))).run Try.prog u = .ok (.agg Y.toArray) u := fun u hu =>
      run_loadAt_mid u G 0 _ Y _ (by have := World.rangeAt_of_block (hgg u hu) 0 129; rw [Nat.zero_add, Array.extract_eq_self_of_le (by rw [HYs.out]; exact Nat.le_refl _)] at this; exact this) Try.underlying61 rfl (by rw [HIs.out, HYl.out])
    have hl59 : ∀ u, U.grownBy u (some w.heap.size) → (Instr.loadAt 59 (.pointer (some ⟨G, 0, none⟩))).run Try.prog u = .ok (.agg X.toArray) u := fun u hu =>
      run_loadAt_mid u G 0 _ X _ (by have := World.rangeAt_of_block (hgg u hu) 0 128; rw [HYX.out] at this; exact this) Try.underlying59 rfl (by rw [HIt.out, HXl.out])
    have hl4 : ∀ u, U.grownBy u (some w.heap.size) → u.cell? ⟨G, 128, none⟩ = some (.bool t1) := fun u hu => by
      rw [cell_of_row _ _ 128 _ _ _ (hgg u hu)]
      exact HY128.out
    have HUE : Hid ((U.drew.setCells w.heap.size 0 Y).heap[w.heap.size]? = some (.cells Y.toArray 61 (0, 0))) := by
      unfold Hid
      rw [heap_setCells _ _ _ _ Z.toList _ (by rw [Array.toArray_toList]; exact hUR) (by rw [HYl.out, Array.length_toList, HZs.out]; decide), splice_all _ _ (by rw [HYl.out, Array.length_toList, HZs.out])]
    have HUB : Hid (Below w.heap.size w (U.drew.setCells w.heap.size 0 Y)) := below_setCells (hbW.trans (hUW.mono (Nat.le_of_lt hlt))).drew (Nat.le_refl _) _ _
    clear hcb hc0 hx0
    cases t0
    · cases t1
      · go_wp2_with fail
        refine wp_region_noPanic ?_
        refine wp_region_held_drew (S := (fun u => U.grownBy u (some w.heap.size))) (by kernel_rfl) (by with_reducible first | assumption | exact gr_drw _ | exact gr_cells (by assumption) _ _) (fun hHeld => ?_)
        refine take_at (i := 0) 13 (v := .agg Y.toArray) rfl rfl (by kernel_rfl) (by kernel_rfl) (by kernel_rfl) (fun _ _ _ h => h) (by rfl) ?_ hHeld ?_
        · (intro w hSw; refine exec_load (by rfl) ?_; exact hl61 w hSw)
        simp only [Act.put, List.setIfInBounds_toArray, List.set_cons_zero, List.set_cons_succ]
        refine take_at (i := 1) 14 (v := ?_) rfl rfl (by kernel_rfl) (by kernel_rfl) (by kernel_rfl) (fun _ _ _ h => h) (by rfl) ?_ hHeld ?_
        rotate_left
        · (intro w hSw; (try dsimp only at hSw); go_simp; try with_reducible rfl)
        simp only [Act.put, List.setIfInBounds_toArray, List.set_cons_zero, List.set_cons_succ]
        refine take_at (i := 2) 15 (v := ?_) rfl rfl (by kernel_rfl) (by kernel_rfl) (by kernel_rfl) (fun _ _ _ h => h) (by rfl) ?_ hHeld ?_
        rotate_left
        · (intro w hSw; (try dsimp only at hSw); go_simp; try with_reducible rfl)
        simp only [Act.put, List.setIfInBounds_toArray, List.set_cons_zero, List.set_cons_succ]
        refine take_at (i := 3) 16 (v := ?_) rfl rfl (by kernel_rfl) (by kernel_rfl) (by kernel_rfl) (fun _ _ _ h => h) (by rfl) ?_ hHeld ?_
        rotate_left
        · (intro w hSw; (try dsimp only at hSw); go_simp; try with_reducible rfl)
        simp only [Act.put, List.setIfInBounds_toArray, List.set_cons_zero, List.set_cons_succ]
        refine take_at (i := 4) 17 (v := ?_) rfl rfl (by kernel_rfl) (by kernel_rfl) (by kernel_rfl) (fun _ _ _ h => h) (by rfl) ?_ hHeld ?_
        rotate_left
        · (intro w hSw; (try dsimp only at hSw); go_simp; try with_reducible rfl)
        simp only [Act.put, List.setIfInBounds_toArray, List.set_cons_zero, List.set_cons_succ]
        refine take_at (i := 5) 18 (v := ?_) rfl rfl (by kernel_rfl) (by kernel_rfl) (by kernel_rfl) (fun _ _ _ h => h) (by rfl) ?_ hHeld ?_
        rotate_left
        · (intro w hSw; (try dsimp only at hSw); go_simp; try with_reducible rfl)
        simp only [Act.put, List.setIfInBounds_toArray, List.set_cons_zero, List.set_cons_succ]
        refine take_at (i := 6) 19 (v := ?_) rfl rfl (by kernel_rfl) (by kernel_rfl) (by kernel_rfl) (fun _ _ _ h => h) (by rfl) ?_ hHeld ?_
        rotate_left
        · (intro w hSw; (try dsimp only at hSw); go_simp; try with_reducible rfl)
        simp only [Act.put, List.setIfInBounds_toArray, List.set_cons_zero, List.set_cons_succ]
        refine take_at (i := 7) 20 (v := ?_) rfl rfl (by kernel_rfl) (by kernel_rfl) (by kernel_rfl) (fun _ _ _ h => h) (by rfl) ?_ hHeld ?_
        rotate_left
        · (intro w hSw; (try dsimp only at hSw); go_simp; try with_reducible rfl)
        simp only [Act.put, List.setIfInBounds_toArray, List.set_cons_zero, List.set_cons_succ]
        refine take_at (i := 8) 21 (v := ?_) rfl rfl (by kernel_rfl) (by kernel_rfl) (by kernel_rfl) (fun _ _ _ h => h) (by rfl) ?_ hHeld ?_
        rotate_left
        · (intro w hSw; (try dsimp only at hSw); go_simp; try with_reducible rfl)
        simp only [Act.put, List.setIfInBounds_toArray, List.set_cons_zero, List.set_cons_succ]
        refine skip_at (i := 9) 22 rfl rfl (by kernel_rfl) (by kernel_rfl) (by kernel_rfl) (fun _ _ _ h => h) (by rfl) hHeld ?_
        simp only [Act.put, List.setIfInBounds_toArray, List.set_cons_zero, List.set_cons_succ]
        refine skip_at (i := 10) 23 rfl rfl (by kernel_rfl) (by kernel_rfl) (by kernel_rfl) (fun _ _ _ h => h) (by rfl) hHeld ?_
        simp only [Act.put, List.setIfInBounds_toArray, List.set_cons_zero, List.set_cons_succ]
        refine skip_at (i := 11) 24 rfl rfl (by kernel_rfl) (by kernel_rfl) (by kernel_rfl) (fun _ _ _ h => h) (by rfl) hHeld ?_
        simp only [Act.put, List.setIfInBounds_toArray, List.set_cons_zero, List.set_cons_succ]
        refine skip_at (i := 12) 25 rfl rfl (by kernel_rfl) (by kernel_rfl) (by kernel_rfl) (fun _ _ _ h => h) (by rfl) hHeld ?_
        simp only [Act.put, List.setIfInBounds_toArray, List.set_cons_zero, List.set_cons_succ]
        refine take_at (i := 13) 26 (v := ?_) rfl rfl (by kernel_rfl) (by kernel_rfl) (by kernel_rfl) (fun _ _ _ h => h) (by rfl) ?_ hHeld ?_
        rotate_left
        · (intro w hSw; (try dsimp only at hSw); go_simp; try with_reducible rfl)
        simp only [Act.put, List.setIfInBounds_toArray, List.set_cons_zero, List.set_cons_succ]
        refine take_at (i := 14) 27 (v := ?_) rfl rfl (by kernel_rfl) (by kernel_rfl) (by kernel_rfl) (fun _ _ _ h => h) (by rfl) ?_ hHeld ?_
        rotate_left
        · (intro w hSw; (try dsimp only at hSw); go_simp; try with_reducible rfl)
        simp only [Act.put, List.setIfInBounds_toArray, List.set_cons_zero, List.set_cons_succ]
        refine run_at (i := 15) rfl (by kernel_rfl) (by rfl) (fun K hK => ?_)
        simp only [List.getElem_toArray, List.getElem_cons_zero, List.getElem_cons_succ]
        refine wp_store_mid 61 _ _ rfl w.heap.size 0 Y.toArray rfl rfl (by rw [HYs.out]; exact there_row (w := U.drew) ⟨hUR, Nat.le_of_eq HZs.out.symm⟩) (by rw [HIs.out, HYs.out]) (all_oneCell_toArray HY1.out) ?_
        refine hK.out _ _ (by with_reducible first | assumption | exact gr_drw _ | exact gr_cells (by assumption) _ _) ?_
        clear hK K
        intro hHeld2
        clear hHeld
        have hHeld := hHeld2
        clear hHeld2
        try simp only [Act.put, List.setIfInBounds_toArray, List.set_cons_zero, List.set_cons_succ]
        refine take_at (i := 16) 3 (v := ?_) rfl rfl (by kernel_rfl) (by kernel_rfl) (by kernel_rfl) (fun _ _ _ h => h) (by rfl) ?_ hHeld ?_
        rotate_left
        · (intro w hSw; (try dsimp only at hSw); go_simp; try with_reducible rfl)
        simp only [Act.put, List.setIfInBounds_toArray, List.set_cons_zero, List.set_cons_succ]
        refine wpAnyH_done (by kernel_rfl) ?_ _
        refine NoPanic.normal ?_
        go_wp2
        refine bodyPost_ret (v := .tuple #[.agg Y.toArray, .bool false]) (results_sec Try.results27 _ _ _ w.heap.size 61 Y (0, 0) _ rfl ?_ Try.underlying61 rfl (by rw [HIs.out, HYl.out])) rfl ⟨by rw [HY.out], ?_⟩
        · exact HUE.out
        · exact HUB.out
      · go_wp2_with fail
        refine wp_region_noPanic ?_
        refine wp_region_held_drew (S := (fun u => U.grownBy u (some w.heap.size))) (by kernel_rfl) (by with_reducible first | assumption | exact gr_drw _ | exact gr_cells (by assumption) _ _) (fun hHeld => ?_)
        refine take_at (i := 0) 13 (v := .agg Y.toArray) rfl rfl (by kernel_rfl) (by kernel_rfl) (by kernel_rfl) (fun _ _ _ h => h) (by rfl) ?_ hHeld ?_
        · (intro w hSw; refine exec_load (by rfl) ?_; exact hl61 w hSw)
        simp only [Act.put, List.setIfInBounds_toArray, List.set_cons_zero, List.set_cons_succ]
        refine take_at (i := 1) 14 (v := ?_) rfl rfl (by kernel_rfl) (by kernel_rfl) (by kernel_rfl) (fun _ _ _ h => h) (by rfl) ?_ hHeld ?_
        rotate_left
        · (intro w hSw; (try dsimp only at hSw); go_simp; try with_reducible rfl)
        simp only [Act.put, List.setIfInBounds_toArray, List.set_cons_zero, List.set_cons_succ]
        refine take_at (i := 2) 15 (v := ?_) rfl rfl (by kernel_rfl) (by kernel_rfl) (by kernel_rfl) (fun _ _ _ h => h) (by rfl) ?_ hHeld ?_
        rotate_left
        · (intro w hSw; (try dsimp only at hSw); go_simp; try with_reducible rfl)
        simp only [Act.put, List.setIfInBounds_toArray, List.set_cons_zero, List.set_cons_succ]
        refine take_at (i := 3) 16 (v := ?_) rfl rfl (by kernel_rfl) (by kernel_rfl) (by kernel_rfl) (fun _ _ _ h => h) (by rfl) ?_ hHeld ?_
        rotate_left
        · (intro w hSw; (try dsimp only at hSw); go_simp; try with_reducible rfl)
        simp only [Act.put, List.setIfInBounds_toArray, List.set_cons_zero, List.set_cons_succ]
        refine take_at (i := 4) 17 (v := ?_) rfl rfl (by kernel_rfl) (by kernel_rfl) (by kernel_rfl) (fun _ _ _ h => h) (by rfl) ?_ hHeld ?_
        rotate_left
        · (intro w hSw; (try dsimp only at hSw); go_simp; try with_reducible rfl)
        simp only [Act.put, List.setIfInBounds_toArray, List.set_cons_zero, List.set_cons_succ]
        refine take_at (i := 5) 18 (v := ?_) rfl rfl (by kernel_rfl) (by kernel_rfl) (by kernel_rfl) (fun _ _ _ h => h) (by rfl) ?_ hHeld ?_
        rotate_left
        · (intro w hSw; (try dsimp only at hSw); go_simp; try with_reducible rfl)
        simp only [Act.put, List.setIfInBounds_toArray, List.set_cons_zero, List.set_cons_succ]
        refine take_at (i := 6) 19 (v := ?_) rfl rfl (by kernel_rfl) (by kernel_rfl) (by kernel_rfl) (fun _ _ _ h => h) (by rfl) ?_ hHeld ?_
        rotate_left
        · (intro w hSw; (try dsimp only at hSw); go_simp; try with_reducible rfl)
        simp only [Act.put, List.setIfInBounds_toArray, List.set_cons_zero, List.set_cons_succ]
        refine take_at (i := 7) 20 (v := ?_) rfl rfl (by kernel_rfl) (by kernel_rfl) (by kernel_rfl) (fun _ _ _ h => h) (by rfl) ?_ hHeld ?_
        rotate_left
        · (intro w hSw; (try dsimp only at hSw); go_simp; try with_reducible rfl)
        simp only [Act.put, List.setIfInBounds_toArray, List.set_cons_zero, List.set_cons_succ]
        refine take_at (i := 8) 21 (v := ?_) rfl rfl (by kernel_rfl) (by kernel_rfl) (by kernel_rfl) (fun _ _ _ h => h) (by rfl) ?_ hHeld ?_
        rotate_left
        · (intro w hSw; (try dsimp only at hSw); go_simp; try with_reducible rfl)
        simp only [Act.put, List.setIfInBounds_toArray, List.set_cons_zero, List.set_cons_succ]
        refine take_at (i := 9) 22 (v := ?_) rfl rfl (by kernel_rfl) (by kernel_rfl) (by kernel_rfl) (fun _ _ _ h => h) (by rfl) ?_ hHeld ?_
        rotate_left
        · (intro w hSw; (try dsimp only at hSw); go_simp; try with_reducible rfl)
        simp only [Act.put, List.setIfInBounds_toArray, List.set_cons_zero, List.set_cons_succ]
        refine take_at (i := 10) 23 (v := .agg X.toArray) rfl rfl (by kernel_rfl) (by kernel_rfl) (by kernel_rfl) (fun _ _ _ h => h) (by rfl) ?_ hHeld ?_
        · (intro w hSw; refine exec_load (by rfl) ?_; exact hl59 w hSw)
        simp only [Act.put, List.setIfInBounds_toArray, List.set_cons_zero, List.set_cons_succ]
        refine take_at (i := 11) 24 (v := .agg Z8) rfl rfl (by kernel_rfl) (by kernel_rfl) (by kernel_rfl) (fun _ _ _ h => h) (by rfl) ?_ hHeld ?_
        · (intro w hSw; refine exec_build (by rfl) ?_; simp only [List.map_toArray, List.map_nil]; exact hbt w)
        simp only [Act.put, List.setIfInBounds_toArray, List.set_cons_zero, List.set_cons_succ]
        refine take_at (i := 12) 25 (v := ?_) rfl rfl (by kernel_rfl) (by kernel_rfl) (by kernel_rfl) (fun _ _ _ h => h) (by rfl) ?_ hHeld ?_
        rotate_left
        · (intro w hSw; (try dsimp only at hSw); go_simp; try with_reducible rfl)
        simp only [Act.put, List.setIfInBounds_toArray, List.set_cons_zero, List.set_cons_succ]
        refine take_at (i := 13) 26 (v := ?_) rfl rfl (by kernel_rfl) (by kernel_rfl) (by kernel_rfl) (fun _ _ _ h => h) (by rfl) ?_ hHeld ?_
        rotate_left
        · (intro w hSw; (try dsimp only at hSw); go_simp; try with_reducible rfl)
        simp only [Act.put, List.setIfInBounds_toArray, List.set_cons_zero, List.set_cons_succ]
        refine take_at (i := 14) 27 (v := ?_) rfl rfl (by kernel_rfl) (by kernel_rfl) (by kernel_rfl) (fun _ _ _ h => h) (by rfl) ?_ hHeld ?_
        rotate_left
        · (intro w hSw; (try dsimp only at hSw); go_simp; try with_reducible rfl)
        simp only [Act.put, List.setIfInBounds_toArray, List.set_cons_zero, List.set_cons_succ]
        refine run_at (i := 15) rfl (by kernel_rfl) (by rfl) (fun K hK => ?_)
        simp only [List.getElem_toArray, List.getElem_cons_zero, List.getElem_cons_succ]
        refine wp_store_mid 61 _ _ rfl w.heap.size 0 Y.toArray rfl rfl (by rw [HYs.out]; exact there_row (w := U.drew) ⟨hUR, Nat.le_of_eq HZs.out.symm⟩) (by rw [HIs.out, HYs.out]) (all_oneCell_toArray HY1.out) ?_
        refine hK.out _ _ (by with_reducible first | assumption | exact gr_drw _ | exact gr_cells (by assumption) _ _) ?_
        clear hK K
        intro hHeld2
        clear hHeld
        have hHeld := hHeld2
        clear hHeld2
        try simp only [Act.put, List.setIfInBounds_toArray, List.set_cons_zero, List.set_cons_succ]
        refine take_at (i := 16) 3 (v := ?_) rfl rfl (by kernel_rfl) (by kernel_rfl) (by kernel_rfl) (fun _ _ _ h => h) (by rfl) ?_ hHeld ?_
        rotate_left
        · (intro w hSw; (try dsimp only at hSw); go_simp; try with_reducible rfl)
        simp only [Act.put, List.setIfInBounds_toArray, List.set_cons_zero, List.set_cons_succ]
        refine wpAnyH_done (by kernel_rfl) ?_ _
        refine NoPanic.normal ?_
        go_wp2
        refine bodyPost_ret (v := .tuple #[.agg Y.toArray, .bool te]) (results_sec Try.results27 _ _ _ w.heap.size 61 Y (0, 0) _ rfl ?_ Try.underlying61 rfl (by rw [HIs.out, HYl.out])) rfl ⟨by rw [HY.out], ?_⟩
        · exact HUE.out
        · exact HUB.out
    · go_wp2_with fail
      refine wp_region_noPanic ?_
      refine wp_region_held_drew (S := (fun u => U.grownBy u (some w.heap.size))) (by kernel_rfl) (by with_reducible first | assumption | exact gr_drw _ | exact gr_cells (by assumption) _ _) (fun hHeld => ?_)
      refine take_at (i := 0) 13 (v := .agg Y.toArray) rfl rfl (by kernel_rfl) (by kernel_rfl) (by kernel_rfl) (fun _ _ _ h => h) (by rfl) ?_ hHeld ?_
      · (intro w hSw; refine exec_load (by rfl) ?_; exact hl61 w hSw)
      simp only [Act.put, List.setIfInBounds_toArray, List.set_cons_zero, List.set_cons_succ]
      refine take_at (i := 1) 14 (v := ?_) rfl rfl (by kernel_rfl) (by kernel_rfl) (by kernel_rfl) (fun _ _ _ h => h) (by rfl) ?_ hHeld ?_
      rotate_left
      · (intro w hSw; (try dsimp only at hSw); go_simp; try with_reducible rfl)
      simp only [Act.put, List.setIfInBounds_toArray, List.set_cons_zero, List.set_cons_succ]
      refine take_at (i := 2) 15 (v := ?_) rfl rfl (by kernel_rfl) (by kernel_rfl) (by kernel_rfl) (fun _ _ _ h => h) (by rfl) ?_ hHeld ?_
      rotate_left
      · (intro w hSw; (try dsimp only at hSw); go_simp; try with_reducible rfl)
      simp only [Act.put, List.setIfInBounds_toArray, List.set_cons_zero, List.set_cons_succ]
      refine take_at (i := 3) 16 (v := ?_) rfl rfl (by kernel_rfl) (by kernel_rfl) (by kernel_rfl) (fun _ _ _ h => h) (by rfl) ?_ hHeld ?_
      rotate_left
      · (intro w hSw; (try dsimp only at hSw); go_simp; try with_reducible rfl)
      simp only [Act.put, List.setIfInBounds_toArray, List.set_cons_zero, List.set_cons_succ]
      refine take_at (i := 4) 17 (v := ?_) rfl rfl (by kernel_rfl) (by kernel_rfl) (by kernel_rfl) (fun _ _ _ h => h) (by rfl) ?_ hHeld ?_
      rotate_left
      · (intro w hSw; (try dsimp only at hSw); go_simp; try with_reducible rfl)
      simp only [Act.put, List.setIfInBounds_toArray, List.set_cons_zero, List.set_cons_succ]
      refine take_at (i := 5) 18 (v := ?_) rfl rfl (by kernel_rfl) (by kernel_rfl) (by kernel_rfl) (fun _ _ _ h => h) (by rfl) ?_ hHeld ?_
      rotate_left
      · (intro w hSw; (try dsimp only at hSw); go_simp; try with_reducible rfl)
      simp only [Act.put, List.setIfInBounds_toArray, List.set_cons_zero, List.set_cons_succ]
      refine skip_at (i := 6) 19 rfl rfl (by kernel_rfl) (by kernel_rfl) (by kernel_rfl) (fun _ _ _ h => h) (by rfl) hHeld ?_
      simp only [Act.put, List.setIfInBounds_toArray, List.set_cons_zero, List.set_cons_succ]
      refine skip_at (i := 7) 20 rfl rfl (by kernel_rfl) (by kernel_rfl) (by kernel_rfl) (fun _ _ _ h => h) (by rfl) hHeld ?_
      simp only [Act.put, List.setIfInBounds_toArray, List.set_cons_zero, List.set_cons_succ]
      refine skip_at (i := 8) 21 rfl rfl (by kernel_rfl) (by kernel_rfl) (by kernel_rfl) (fun _ _ _ h => h) (by rfl) hHeld ?_
      simp only [Act.put, List.setIfInBounds_toArray, List.set_cons_zero, List.set_cons_succ]
      refine skip_at (i := 9) 22 rfl rfl (by kernel_rfl) (by kernel_rfl) (by kernel_rfl) (fun _ _ _ h => h) (by rfl) hHeld ?_
      simp only [Act.put, List.setIfInBounds_toArray, List.set_cons_zero, List.set_cons_succ]
      refine skip_at (i := 10) 23 rfl rfl (by kernel_rfl) (by kernel_rfl) (by kernel_rfl) (fun _ _ _ h => h) (by rfl) hHeld ?_
      simp only [Act.put, List.setIfInBounds_toArray, List.set_cons_zero, List.set_cons_succ]
      refine skip_at (i := 11) 24 rfl rfl (by kernel_rfl) (by kernel_rfl) (by kernel_rfl) (fun _ _ _ h => h) (by rfl) hHeld ?_
      simp only [Act.put, List.setIfInBounds_toArray, List.set_cons_zero, List.set_cons_succ]
      refine skip_at (i := 12) 25 rfl rfl (by kernel_rfl) (by kernel_rfl) (by kernel_rfl) (fun _ _ _ h => h) (by rfl) hHeld ?_
      simp only [Act.put, List.setIfInBounds_toArray, List.set_cons_zero, List.set_cons_succ]
      refine skip_at (i := 13) 26 rfl rfl (by kernel_rfl) (by kernel_rfl) (by kernel_rfl) (fun _ _ _ h => h) (by rfl) hHeld ?_
      simp only [Act.put, List.setIfInBounds_toArray, List.set_cons_zero, List.set_cons_succ]
      refine take_at (i := 14) 27 (v := ?_) rfl rfl (by kernel_rfl) (by kernel_rfl) (by kernel_rfl) (fun _ _ _ h => h) (by rfl) ?_ hHeld ?_
      rotate_left
      · (intro w hSw; (try dsimp only at hSw); go_simp; try with_reducible rfl)
      simp only [Act.put, List.setIfInBounds_toArray, List.set_cons_zero, List.set_cons_succ]
      refine run_at (i := 15) rfl (by kernel_rfl) (by rfl) (fun K hK => ?_)
      simp only [List.getElem_toArray, List.getElem_cons_zero, List.getElem_cons_succ]
      refine wp_store_mid 61 _ _ rfl w.heap.size 0 Y.toArray rfl rfl (by rw [HYs.out]; exact there_row (w := U.drew) ⟨hUR, Nat.le_of_eq HZs.out.symm⟩) (by rw [HIs.out, HYs.out]) (all_oneCell_toArray HY1.out) ?_
      refine hK.out _ _ (by with_reducible first | assumption | exact gr_drw _ | exact gr_cells (by assumption) _ _) ?_
      clear hK K
      intro hHeld2
      clear hHeld
      have hHeld := hHeld2
      clear hHeld2
      try simp only [Act.put, List.setIfInBounds_toArray, List.set_cons_zero, List.set_cons_succ]
      refine take_at (i := 16) 3 (v := ?_) rfl rfl (by kernel_rfl) (by kernel_rfl) (by kernel_rfl) (fun _ _ _ h => h) (by rfl) ?_ hHeld ?_
      rotate_left
      · (intro w hSw; (try dsimp only at hSw); go_simp; try with_reducible rfl)
      simp only [Act.put, List.setIfInBounds_toArray, List.set_cons_zero, List.set_cons_succ]
      refine wpAnyH_done (by kernel_rfl) ?_ _
      refine NoPanic.normal ?_
      go_wp2
      refine bodyPost_ret (v := .tuple #[.agg Y.toArray, .bool true]) (results_sec Try.results27 _ _ _ w.heap.size 61 Y (0, 0) _ rfl ?_ Try.underlying61 rfl (by rw [HIs.out, HYl.out])) rfl ⟨by rw [HY.out], ?_⟩
      · exact HUE.out
      · exact HUB.out
theorem u8_eq0 (c : UInt8) : ((c.toNat : Int) == 0) = (c == 0) := by
  rw [Bool.eq_iff_iff]; simp only [beq_iff_eq]
  constructor
  · intro h; exact UInt8.toNat_inj.1 (by simp; omega)
  · intro h; rw [h]; rfl
theorem u8_eq1 (c : UInt8) : ((c.toNat : Int) == 1) = (c == 1) := by
  rw [Bool.eq_iff_iff]; simp only [beq_iff_eq]
  constructor
  · intro h; exact UInt8.toNat_inj.1 (by simp; omega)
  · intro h; rw [h]; rfl
/-- may these be a sector's bytes? -/
def goodRow (c : UInt8) (xs : List UInt8) : Bool := c == 0 || (c == 1 && xs.all (· == 0))
theorem sectorOf_t (b o : Nat) (c : UInt8) (xs : List UInt8) (w : World) (hx : Rd w (some ⟨b, o, none⟩) (c :: xs)) (hl : xs.length = 128) :
    Calls Try.prog 27 #[.slice (some ⟨b, o, none⟩) 129 129] w fun e w' => e = .returned (.tuple #[.agg (secV xs (c == 1)).toArray, .bool (goodRow c xs)]) ∧ Below w.heap.size w w' :=
  sectorOf_x b o c xs w hx hl (c == 0) (c == 1) _ (u8_eq0 c) (u8_eq1 c) rfl
end Go.Proofs.Ytgdkiejlggiakaa
