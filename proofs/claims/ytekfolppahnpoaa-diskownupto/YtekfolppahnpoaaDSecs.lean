import Derived.Test.YtekfolppahnpoaaDEq
import Derived.Lib.BufferOwn
import Derived.Laws.ResultCell
import Derived.Laws.CopyOwn
namespace Go.Proofs.Ytekfolppahnpoaa
set_option linter.unusedVariables false
set_option linter.unusedSimpArgs false
open Go.RowKit
theorem Rd.tail {w : World} {b o : Nat} {c : UInt8} {xs : List UInt8} (h : Rd w (some ⟨b, o, none⟩) (c :: xs)) : Rd w (some ⟨b, o + 1, none⟩) xs := by
  intro hp
  obtain ⟨b', o', e, hc⟩ := h (by simp)
  cases e
  refine ⟨_, _, rfl, fun i hi => ?_⟩
  have := hc (i + 1) (by simp; omega)
  rw [show o + 1 + i = o + (i + 1) from by omega, this]
  simp
theorem Rd.head {w : World} {b o : Nat} {c : UInt8} {xs : List UInt8} (h : Rd w (some ⟨b, o, none⟩) (c :: xs)) : w.cell? ⟨b, o, none⟩ = some (.int .u8 (c.toNat : Int)) := by
  obtain ⟨b', o', e, hc⟩ := h (by simp)
  cases e
  exact hc 0 (by simp)
/-- a sector's cells -/
def secV (xs : List UInt8) (t : Bool) : List Value := bv xs ++ [.bool t]
theorem secV_len (xs : List UInt8) (t : Bool) (h : xs.length = 128) : (secV xs t).length = 129 := by simp [secV, bv_length, h]
theorem secV_one (xs : List UInt8) (t : Bool) : ∀ v ∈ secV xs t, v.oneCell' = true := by
  intro v hv
  simp only [secV, List.mem_append, List.mem_singleton] at hv
  rcases hv with h | rfl
  · exact bv_one xs v h
  · rfl
theorem al {w w1 : World} (h : Below w.heap.size w w1) (o : Obj) : Below w.heap.size w (w1.alloc o) := h.alloc h.size o
theorem below_setCells {B g : Nat} {w0 w : World} (hb : Below B w0 w) (hBg : B ≤ g) (o : Nat) (cs : List Value) : Below B w0 (w.setCells g o cs) :=
  hb.trans ⟨(setCells_grown g cs o w).os, (setCells_grown g cs o w).tape, (setCells_grown g cs o w).output, (setCells_grown g cs o w).size, fun k hk => heap_setCells_far g cs o w k (by omega)⟩
theorem exec_build {P : Program} {a : Act} {oi : Oper} {t : TypeId} {parts : Array (Nat × Operand)} (ho : oi.op = .build t parts) {cells : Array Value} {w : World} (h : (Instr.build t (parts.map fun (i, x) => (i, a.eval x))).run P w = .ok (.agg cells) w) : (execOp a.eval oi).run P w = .ok (.value (.agg cells)) w := by
  unfold execOp
  simp only [ho, Sem.run_bind, h, Result.andThen_ok]
  rfl
theorem gr_below {a w w' : World} {row : Option Nat} (h : a.grownBy w row) (hb : Below w.heap.size w w') : a.grownBy w' row := Lib.grownBy_below h hb
theorem gr_drw {w : World} (row : Option Nat) : w.grownBy w.drew row := gr_below (World.grownBy.refl _ _) (Below.refl _ _).drew
theorem gr_cells {a w : World} {p : Nat} (h : a.grownBy w (some p)) (o : Nat) (cs : List Value) : a.grownBy (w.setCells p o cs) (some p) := h.trans' (setCells_grown p cs o w)
theorem exec_load {P : Program} {a : Act} {oi : Oper} {t : TypeId} {x : Operand} (ho : oi.op = .load t x) {v : Value} {w : World} (h : (Instr.loadAt t (a.eval x)).run P w = .ok v w) : (execOp a.eval oi).run P w = .ok (.value v) w := by
  unfold execOp
  simp only [ho, Sem.run_bind, h, Result.andThen_ok]
  rfl
/-- a sector and a flag, handed back -/
theorem results_sec {fn : Func} {p u : Tmp} {ty : TypeId} (h : fn.results = #[.cell p ty, .tmp u]) (tmps : Array Value) (P : Program) (w : World) (g : Nat) (t : TypeId) (cs : List Value) (fr : Nat × Nat) (d : TypeDesc)
    (hp : tmps.getD p undef = .pointer (some ⟨g, 0, none⟩)) (hg : w.heap[g]? = some (.cells cs.toArray t fr))
    (hu : P.underlying ty = some d) (hd : d.isRow = true) (hi : (P.info? ty).map (·.size) = some cs.length) :
    (results fn tmps).run P w = .ok (.tuple #[.agg cs.toArray, tmps.getD u undef]) w := by
  rw [results_cell_tmp h, hp]
  have hr : w.rangeAt g 0 cs := fun j v hv => by
    rw [Nat.zero_add, cell_of_row _ _ j _ _ _ hg]
    simpa using hv
  simp only [asAddr, Sem.run_pure, Result.andThen_ok, run_loadVar_mid w g 0 ty cs d hr hu hd hi]
theorem there_new (w : World) (Z : Array Value) (t : TypeId) (n : Nat) (hn : n ≤ Z.size) : (w.alloc (.cells Z t)).there w.heap.size 0 n := by
  intro j hj
  have h := heap_alloc_new w (.cells Z t)
  refine ⟨?_, ?_⟩
  · rw [Nat.zero_add, cell_of_row _ _ j _ _ _ h]
    simp; omega
  · rw [Nat.zero_add]; exact frozen_of_row _ _ j _ _ h
theorem there_row {w : World} {g n : Nat} {Z : Array Value} {t : TypeId} (h : w.heap[g]? = some (.cells Z t (0, 0)) ∧ n ≤ Z.size) : w.there g 0 n := by
  intro j hj
  refine ⟨?_, ?_⟩
  · rw [Nat.zero_add, cell_of_row _ _ j _ _ _ h.1]
    simp; omega
  · rw [Nat.zero_add]; exact frozen_of_row _ _ j _ _ h.1
theorem there_below {w w' : World} {b o n : Nat} (h : w.there b o n) (hb : Below w.heap.size w w') : w'.there b o n := by
  intro j hj
  obtain ⟨h1, h2⟩ := h j hj
  obtain ⟨u, hu⟩ := Option.isSome_iff_exists.1 h1
  have hlt := World.block_lt_of_cell? w _ hu
  exact ⟨by rw [hb.cell (p := ⟨b, o + j, none⟩) hlt]; exact h1, by rw [hb.frozen (p := ⟨b, o + j, none⟩) hlt]; exact h2⟩
theorem u8_eq0 (c : UInt8) : ((c.toNat : Int) == 0) = (c == 0) := by
  rw [Bool.eq_iff_iff]; simp only [beq_iff_eq]
  constructor
  · intro h; exact UInt8.toNat_inj.1 (by simp; omega)
  · intro h; rw [h]; rfl
theorem u8_eq1 (c : UInt8) : ((c.toNat : Int) == 1) = (c == 1) := by
  rw [Bool.eq_iff_iff]; simp only [beq_iff_eq]
  constructor
  · intro h; exact UInt8.toNat_inj.1 (by simp; omega)
  · intro h; rw [h]; rfl
/-- may these be a sector's bytes? -/
def goodRow (c : UInt8) (xs : List UInt8) : Bool := c == 0 || (c == 1 && xs.all (· == 0))
end Go.Proofs.Ytekfolppahnpoaa
namespace Go.Proofs.Ytekfolppahnpoaa
set_option linter.unusedVariables false
set_option linter.unusedSimpArgs false
open Go.RowKit
theorem wp_copy_own {P : Program} {o : Oper} {a : Act} {w : World} {K : Act → World → Prop} {Q : Exit → Act → World → Prop} (d s : Operand) (dT sT : TypeId)
    (ho : o.op = .call { callee := .builtin .copy, args := #[d, s], argTypes := #[dT, sT] }) (elem : TypeId) (hu : P.underlying dT = some (.slice elem)) (hsz : (P.info? elem).map (·.size) = some 1)
    (g off dLen dCap : Nat) (ad : Addr) (sLen sCap : Nat) (hd : a.eval d = .slice (some ⟨g, off, none⟩) dLen dCap) (hs : a.eval s = .slice (some ad) sLen sCap)
    (cur : List Value) (t : TypeId) (hg : w.heap[g]? = some (.cells cur.toArray t (0, 0))) (cs : List Value) (hn : cs.length = Nat.min sLen dLen)
    (hsrc : ∀ j v, cs[j]? = some v → w.cell? (ad.add j) = some v) (hfit : off + cs.length ≤ cur.length) (h1 : ∀ v ∈ cs, v.oneCell' = true)
    (h : K (a.put o.dst (goInt cs.length)) (w.setRow g (splice cur off cs).toArray)) : Oper.wp P o a w K Q := by
  have hrun := run_copy_row (P := P) w dT sT o.type elem g off dLen dCap ad sLen sCap cur.toArray t cs hu hsz hg hn hsrc (by simpa using hfit) h1
  unfold Oper.wp
  simp [execOp, ho, resolve, invoke, builtin, hd, hs, hrun, Result.andThen]
  show K _ _
  exact h
theorem grown_setRow (w : World) (g : Nat) (cs : Array Value) : w.grownBy (w.setRow g cs) (some g) :=
  ⟨rfl, rfl, rfl, by simp [World.setRow], fun k _ hne => setRow_other w g k cs (fun e => hne (by rw [e]))⟩
/-- the mark of a sector in an image -/
def rmk (t : Bool) : UInt8 := if t then 1 else 0
theorem bv_cons (c : UInt8) (xs : List UInt8) : bv (c :: xs) = .int .u8 (c.toNat : Int) :: bv xs := rfl
theorem splice_get {α : Type} (L : List α) (o : Nat) (v : α) (r : List α) (h : L[o]? = some v) : splice L (o + 1) r = splice L o (v :: r) := by
  have hlt := (List.getElem?_eq_some_iff.1 h).1
  have e : L.set o v = L := by
    apply List.ext_getElem?
    intro i
    rw [List.getElem?_set]
    by_cases hi : o = i
    · subst hi; simp only [if_true, hlt]; exact h.symm
    · simp [hi]
  rw [← splice_step L o v r hlt, e]
set_option maxRecDepth 20000 in
set_option maxHeartbeats 800000 in
theorem lay_t (xs : List UInt8) (t : Bool) (g o : Nat) (L : List Value) (w : World) (hl : xs.length = 128) (hg : w.heap[g]? = some (.cells L.toArray 5 (0, 0))) (hL : o + 129 ≤ L.length) (h0 : L[o]? = some (.int .u8 0)) :
    Calls Try.prog 26 #[.agg (secV xs t).toArray, .slice (some ⟨g, o, none⟩) 129 129] w fun e w' => e = .returned (.tuple #[]) ∧ w'.heap[g]? = some (.cells (splice L o (bv (rmk t :: xs))).toArray 5 (0, 0)) ∧ w.grownBy w' (some g) := by
  obtain ⟨Y, hY⟩ : ∃ Y : List Value, Y = secV xs t := ⟨_, rfl⟩
  rw [← hY]
  obtain ⟨X, hX⟩ : ∃ X : List Value, X = bv xs := ⟨_, rfl⟩
  have HX : Hid (X = bv xs) := hX
  have HXl : Hid (X.length = 128) := by unfold Hid; rw [hX, bv_length, hl]
  have HX1 : Hid (∀ v ∈ X, v.oneCell' = true) := by unfold Hid; rw [hX]; exact bv_one xs
  have hgl : g < w.heap.size := (Array.getElem?_eq_some_iff.1 hg).1
  obtain ⟨W, hW⟩ : ∃ W : World, W = w.alloc (.cells Y.toArray 63) := ⟨_, rfl⟩
  have hH : W.heap[w.heap.size]? = some (.cells Y.toArray 63 (0, 0)) := by rw [hW]; exact heap_alloc_new w _
  have hWg : W.heap[g]? = some (.cells L.toArray 5 (0, 0)) := by rw [hW, heap_alloc_old (h := hgl)]; exact hg
  have hgW : w.grownBy W (some g) := by rw [hW]; exact World.grownBy_alloc w _ _
  have ht : W.cell? ⟨w.heap.size, 128, none⟩ = some (.bool t) := by
    rw [cell_of_row _ _ 128 _ _ _ hH, hY]
    simp [secV, bv_length, hl]
  have hc : W.cell? ⟨g, o, none⟩ = some (.int .u8 0) := by
    rw [cell_of_row _ _ o _ _ _ hWg]
    simpa using h0
  have hf := frozen_of_row W g o _ _ hWg
  have HS : Hid (∀ j v, X[j]? = some v → W.cell? ⟨w.heap.size, j, none⟩ = some v) := by
    intro j v hj
    rw [cell_of_row _ _ j _ _ _ hH, hY]
    have hlt : j < X.length := (List.getElem?_eq_some_iff.1 hj).1
    have hlt2 : j < (bv xs).length := by rw [← hX]; exact hlt
    simp only [secV, List.getElem?_toArray]
    rw [List.getElem?_append_left hlt2, ← hX]
    exact hj
  have hY128 : Y[128]? = some (.bool t) := by rw [hY]; simp [secV, bv_length, hl]
  have hwc : w.cell? ⟨g, o, none⟩ = some (.int .u8 0) := by
    rw [cell_of_row _ _ o _ _ _ hg]
    simpa using h0
  have hwf := frozen_of_row w g o _ _ hg
  have hw1 : (Try.prog.info? 5).map (·.size) = some 1 := by obtain ⟨i0, hi, hz0, hz1, hz2⟩ := info_parts info5; rw [hi, Option.map_some, hz1]
  have HY : Hid (Y = secV xs t) := hY
  have HW : Hid (W = _) := hW
  have Hht : Hid _ := ht
  have HWg : Hid _ := hWg
  have HgW : Hid _ := hgW
  have HLL : Hid (o + 129 ≤ L.length) := hL
  have HL0 : Hid (L[o]? = some (.int .u8 0)) := h0
  have HG : Hid _ := hg
  have HWH : Hid _ := hH
  clear hY hX hW hH hWg hgW ht hc hf hL h0 hg
  cases t
  · go_enter Try.func26, Try.ntmps26
    go_wp2_with fail
    rw [← HW.out]
    refine wp_region_noPanic ?_
    refine wp_region_held_drew (S := (fun _ => True)) (by kernel_rfl) (by exact trivial) (fun hHeld => ?_)
    refine take_at (i := 0) 8 (v := ?_) rfl rfl (by kernel_rfl) (by kernel_rfl) (by kernel_rfl) (fun _ _ _ h => h) (by rfl) ?_ hHeld ?_
    rotate_left
    · (intro w hSw; (try dsimp only at hSw); go_simp; try with_reducible rfl)
    simp only [Act.put, List.setIfInBounds_toArray, List.set_cons_zero, List.set_cons_succ]
    refine take_at (i := 1) 9 (v := ?_) rfl rfl (by kernel_rfl) (by kernel_rfl) (by kernel_rfl) (fun _ _ _ h => h) (by rfl) ?_ hHeld ?_
    rotate_left
    · (intro w hSw; (try dsimp only at hSw); go_simp; try with_reducible rfl)
    simp only [Act.put, List.setIfInBounds_toArray, List.set_cons_zero, List.set_cons_succ]
    refine take_at (i := 2) 10 (v := ?_) rfl rfl (by kernel_rfl) (by kernel_rfl) (by kernel_rfl) (fun _ _ _ h => h) (by rfl) ?_ hHeld ?_
    rotate_left
    · (intro w hSw; (try dsimp only at hSw); go_simp; try with_reducible rfl)
    simp only [Act.put, List.setIfInBounds_toArray, List.set_cons_zero, List.set_cons_succ]
    refine take_at (i := 3) 11 (v := ?_) rfl rfl (by kernel_rfl) (by kernel_rfl) (by kernel_rfl) (fun _ _ _ h => h) (by rfl) ?_ hHeld ?_
    rotate_left
    · (intro w hSw; (try dsimp only at hSw); go_simp; try with_reducible rfl)
    simp only [Act.put, List.setIfInBounds_toArray, List.set_cons_zero, List.set_cons_succ]
    refine run_at (i := 4) rfl (by kernel_rfl) (by rfl) (fun K hK => ?_)
    simp only [List.getElem_toArray, List.getElem_cons_zero, List.getElem_cons_succ]
    refine wp_copy_own _ _ 40 40 (by rfl) 5 Try.underlying40 hw1 g (o + 1) 128 128 ⟨w.heap.size, 0, none⟩ 128 128 (by rfl) (by rfl) L 5 HWg.out X (by rw [HXl.out]; rfl) (fun j v hv => by rw [Addr.add_mid, Nat.zero_add]; exact HS.out j v hv) (by have := HLL.out; rw [HXl.out]; omega) HX1.out ?_
    refine hK.out _ _ (by exact trivial) ?_
    clear hK K
    intro hHeld2
    clear hHeld
    have hHeld := hHeld2
    clear hHeld2
    try simp only [Act.put, List.setIfInBounds_toArray, List.set_cons_zero, List.set_cons_succ]
    refine wpAnyH_done (by kernel_rfl) ?_ _
    refine NoPanic.normal ?_
    go_end0
    refine ⟨rfl, ?_, ?_⟩
    · rw [setRow_heap _ _ _ _ _ _ (show W.drew.heap[g]? = _ from HWg.out), bv_cons, ← HX.out, splice_get L o _ X HL0.out]
      rfl
    · exact (gr_below HgW.out (Below.refl _ _).drew).trans' (grown_setRow _ _ _)
  · obtain ⟨V, hV⟩ : ∃ V : World, V = (w.setCell ⟨g, o, none⟩ (.int .u8 1)).alloc (.cells Y.toArray 63) := ⟨_, rfl⟩
    have hsz : (w.setCell ⟨g, o, none⟩ (.int .u8 1)).heap.size = w.heap.size := by simp
    have HVg : Hid (V.heap[g]? = some (.cells (L.set o (.int .u8 1)).toArray 5 (0, 0))) := by
      unfold Hid
      rw [hV, heap_alloc_old (h := by rw [hsz]; exact hgl), heap_setCell_same w g o _ _ _ HG.out]
      simp
    have hVH : V.heap[w.heap.size]? = some (.cells Y.toArray 63 (0, 0)) := by rw [hV, ← hsz]; exact heap_alloc_new _ _
    have HVS : Hid (∀ j v, X[j]? = some v → V.cell? ⟨w.heap.size, j, none⟩ = some v) := by
      intro j v hj
      have h1 := HS.out j v hj
      rw [cell_of_row _ _ j _ _ _ HWH.out] at h1
      rw [cell_of_row _ _ j _ _ _ hVH]
      exact h1
    have HVW : Hid (w.grownBy V (some g)) := by unfold Hid; rw [hV]; exact (gset1 w g o _).trans' (World.grownBy_alloc _ _ _)
    have HV : Hid (V = _) := hV
    clear hV hVH hsz
    go_enter Try.func26, Try.ntmps26
    go_wp2_with fail
    rw [← HV.out]
    refine wp_region_noPanic ?_
    refine wp_region_held_drew (S := (fun _ => True)) (by kernel_rfl) (by exact trivial) (fun hHeld => ?_)
    refine take_at (i := 0) 8 (v := ?_) rfl rfl (by kernel_rfl) (by kernel_rfl) (by kernel_rfl) (fun _ _ _ h => h) (by rfl) ?_ hHeld ?_
    rotate_left
    · (intro w hSw; (try dsimp only at hSw); go_simp; try with_reducible rfl)
    simp only [Act.put, List.setIfInBounds_toArray, List.set_cons_zero, List.set_cons_succ]
    refine take_at (i := 1) 9 (v := ?_) rfl rfl (by kernel_rfl) (by kernel_rfl) (by kernel_rfl) (fun _ _ _ h => h) (by rfl) ?_ hHeld ?_
    rotate_left
    · (intro w hSw; (try dsimp only at hSw); go_simp; try with_reducible rfl)
    simp only [Act.put, List.setIfInBounds_toArray, List.set_cons_zero, List.set_cons_succ]
    refine take_at (i := 2) 10 (v := ?_) rfl rfl (by kernel_rfl) (by kernel_rfl) (by kernel_rfl) (fun _ _ _ h => h) (by rfl) ?_ hHeld ?_
    rotate_left
    · (intro w hSw; (try dsimp only at hSw); go_simp; try with_reducible rfl)
    simp only [Act.put, List.setIfInBounds_toArray, List.set_cons_zero, List.set_cons_succ]
    refine take_at (i := 3) 11 (v := ?_) rfl rfl (by kernel_rfl) (by kernel_rfl) (by kernel_rfl) (fun _ _ _ h => h) (by rfl) ?_ hHeld ?_
    rotate_left
    · (intro w hSw; (try dsimp only at hSw); go_simp; try with_reducible rfl)
    simp only [Act.put, List.setIfInBounds_toArray, List.set_cons_zero, List.set_cons_succ]
    refine run_at (i := 4) rfl (by kernel_rfl) (by rfl) (fun K hK => ?_)
    simp only [List.getElem_toArray, List.getElem_cons_zero, List.getElem_cons_succ]
    refine wp_copy_own _ _ 40 40 (by rfl) 5 Try.underlying40 hw1 g (o + 1) 128 128 ⟨w.heap.size, 0, none⟩ 128 128 (by rfl) (by rfl) (L.set o (.int .u8 1)) 5 HVg.out X (by rw [HXl.out]; rfl) (fun j v hv => by rw [Addr.add_mid, Nat.zero_add]; exact HVS.out j v hv) (by have := HLL.out; rw [HXl.out, List.length_set]; omega) HX1.out ?_
    refine hK.out _ _ (by exact trivial) ?_
    clear hK K
    intro hHeld2
    clear hHeld
    have hHeld := hHeld2
    clear hHeld2
    try simp only [Act.put, List.setIfInBounds_toArray, List.set_cons_zero, List.set_cons_succ]
    refine wpAnyH_done (by kernel_rfl) ?_ _
    refine NoPanic.normal ?_
    go_end0
    refine ⟨rfl, ?_, ?_⟩
    · rw [setRow_heap _ _ _ _ _ _ (show V.drew.heap[g]? = _ from HVg.out), bv_cons, ← HX.out, splice_step L o _ X (by have := HLL.out; omega)]
      rfl
    · exact (gr_below HVW.out (Below.refl _ _).drew).trans' (grown_setRow _ _ _)
end Go.Proofs.Ytekfolppahnpoaa
namespace Go.Proofs.Ytekfolppahnpoaa
set_option linter.unusedVariables false
set_option linter.unusedSimpArgs false
open Go.RowKit
/-! rows of parts of one size -/
theorem flat_len {α β : Type} (f : α → List β) (n : Nat) : ∀ (l : List α), (∀ x ∈ l, (f x).length = n) → (l.flatMap f).length = l.length * n
  | [], _ => by simp
  | x :: l, h => by
    rw [List.flatMap_cons, List.length_append, h x (by simp), flat_len f n l (fun y hy => h y (by simp [hy])), List.length_cons, Nat.succ_mul]
    omega
theorem flat_drop {α β : Type} (f : α → List β) (n : Nat) : ∀ (l : List α) (k : Nat), (∀ x ∈ l, (f x).length = n) → (l.flatMap f).drop (k * n) = (l.drop k).flatMap f
  | l, 0, _ => by simp
  | [], k + 1, _ => by simp
  | x :: l, k + 1, h => by
    rw [List.flatMap_cons, List.drop_succ_cons, ← flat_drop f n l k (fun y hy => h y (by simp [hy])), Nat.succ_mul, Nat.add_comm, ← List.drop_drop, List.drop_left' (h x (by simp))]
theorem flat_take {α β : Type} (f : α → List β) (n : Nat) : ∀ (l : List α) (k : Nat), (∀ x ∈ l, (f x).length = n) → (l.flatMap f).take (k * n) = (l.take k).flatMap f
  | l, 0, _ => by simp
  | [], k + 1, _ => by simp
  | x :: l, k + 1, h => by
    rw [List.flatMap_cons, List.take_succ_cons, List.flatMap_cons, ← flat_take f n l k (fun y hy => h y (by simp [hy])), Nat.succ_mul, Nat.add_comm, List.take_append, h x (by simp), Nat.add_sub_cancel_left, List.take_of_length_le (by rw [h x (by simp)]; omega)]
theorem flat_at {α β : Type} (f : α → List β) (n : Nat) (l : List α) (h : ∀ x ∈ l, (f x).length = n) (k j : Nat) (hk : k < l.length) (hj : j < n) : (l.flatMap f)[k * n + j]? = (f l[k])[j]? := by
  rw [← List.getElem?_drop, flat_drop f n l k h, List.drop_eq_getElem_cons hk, List.flatMap_cons, List.getElem?_append_left (by rw [h _ (List.getElem_mem hk)]; exact hj)]
theorem flat_set {α β : Type} (f : α → List β) (n : Nat) (l : List α) (h : ∀ x ∈ l, (f x).length = n) (k : Nat) (hk : k < l.length) (y : α) (hy : (f y).length = n) : splice (l.flatMap f) (k * n) (f y) = (l.set k y).flatMap f := by
  unfold splice
  rw [hy, flat_take f n l k h, show k * n + n = (k + 1) * n from by rw [Nat.succ_mul], flat_drop f n l (k + 1) h, List.set_eq_take_append_cons_drop, if_pos hk, List.flatMap_append, List.flatMap_cons]
/-! sectors -/
structure Sec where
  text : List UInt8
  torn : Bool
def Sec.ok (s : Sec) : Prop := s.text.length = 128
def Sec.cells (s : Sec) : List Value := secV s.text s.torn
def Sec.row (s : Sec) : List UInt8 := rmk s.torn :: s.text
def Sec.zero : Sec := ⟨List.replicate 128 0, false⟩
theorem Sec.zero_ok : Sec.zero.ok := by simp [Sec.zero, Sec.ok]
theorem Sec.cells_len {s : Sec} (h : s.ok) : s.cells.length = 129 := secV_len s.text s.torn h
theorem Sec.row_len {s : Sec} (h : s.ok) : s.row.length = 129 := by simp [Sec.row, show s.text.length = 128 from h]
def secs (S : List Sec) : List Value := S.flatMap Sec.cells
def img (S : List Sec) : List UInt8 := S.flatMap Sec.row
def SOk (S : List Sec) : Prop := ∀ s ∈ S, s.ok
theorem secs_len {S : List Sec} (h : SOk S) : (secs S).length = S.length * 129 := flat_len _ _ S (fun s hs => Sec.cells_len (h s hs))
theorem img_len {S : List Sec} (h : SOk S) : (img S).length = S.length * 129 := flat_len _ _ S (fun s hs => Sec.row_len (h s hs))
theorem bv_flat (S : List Sec) : bv (img S) = S.flatMap fun s => bv s.row := by
  induction S with
  | nil => rfl
  | cons s S ih => simp only [img, List.flatMap_cons] at *; rw [bv_append, ih]
theorem secs_set {S : List Sec} (h : SOk S) (k : Nat) (hk : k < S.length) (y : Sec) (hy : y.ok) : splice (secs S) (k * 129) y.cells = secs (S.set k y) :=
  flat_set _ _ S (fun s hs => Sec.cells_len (h s hs)) k hk y (Sec.cells_len hy)
theorem SOk.set {S : List Sec} (h : SOk S) (k : Nat) (y : Sec) (hy : y.ok) : SOk (S.set k y) := by
  intro s hs
  rcases List.mem_or_eq_of_mem_set hs with h1 | rfl
  · exact h s h1
  · exact hy
theorem SOk.rep (n : Nat) : SOk (List.replicate n Sec.zero) := by
  intro s hs
  rw [List.eq_of_mem_replicate hs]
  exact Sec.zero_ok
/-- the k-th sector of a block of sectors -/
theorem secs_range {w : World} {g : Nat} {S : List Sec} {t : TypeId} {fr : Nat × Nat} (h : SOk S) (hg : w.heap[g]? = some (.cells (secs S).toArray t fr)) (k : Nat) (hk : k < S.length) : w.rangeAt g (k * 129) S[k].cells := by
  intro j v hv
  rw [cell_of_row _ _ _ _ _ _ hg]
  have hj : j < 129 := by rw [← Sec.cells_len (h _ (List.getElem_mem hk))]; exact (List.getElem?_eq_some_iff.1 hv).1
  rw [List.getElem?_toArray]
  exact (flat_at Sec.cells 129 S (fun s hs => Sec.cells_len (h s hs)) k j hk hj).trans hv
theorem secs_there {w : World} {g : Nat} {S : List Sec} {t : TypeId} (h : SOk S) (hg : w.heap[g]? = some (.cells (secs S).toArray t (0, 0))) (k : Nat) (hk : k < S.length) : w.there g (k * 129) 129 := by
  intro j hj
  refine ⟨?_, frozen_of_row _ _ _ _ _ hg⟩
  rw [cell_of_row _ _ _ _ _ _ hg]
  have := secs_len h
  simp only [List.getElem?_toArray]
  rw [List.getElem?_eq_getElem (by rw [this]; have : (k + 1) * 129 ≤ S.length * 129 := Nat.mul_le_mul_right _ hk; omega)]
  rfl
theorem made_secs (n : Nat) : madeCells z129 (n * 129) = (secs (List.replicate n Sec.zero)).toArray := by
  have hz : z129 = Sec.zero.cells.toArray := by
    apply Array.ext'
    simp [z129, Sec.zero, Sec.cells, secV, bv]
  have hl : Sec.zero.cells.length = 129 := Sec.cells_len Sec.zero_ok
  have h2 := secs_len (SOk.rep n)
  rw [List.length_replicate] at h2
  apply Array.ext_getElem?
  intro i
  simp only [List.getElem?_toArray]
  by_cases hi : i < n * 129
  · have hk : i / 129 < n := by rw [Nat.div_lt_iff_lt_mul (by decide)]; exact hi
    have hj : i % 129 < 129 := Nat.mod_lt _ (by decide)
    have e : i = i / 129 * 129 + i % 129 := by omega
    have h1 := flat_at Sec.cells 129 (List.replicate n Sec.zero) (fun s hs => Sec.cells_len (SOk.rep n s hs)) (i / 129) (i % 129) (by simpa using hk) hj
    rw [← e, List.getElem_replicate] at h1
    have h3 : (secs (List.replicate n Sec.zero))[i]? = Sec.zero.cells[i % 129]? := h1
    rw [h3, madeCells, z129_size, Array.getElem?_map, Array.getElem?_range, if_pos hi, hz]
    clear hz h1 h3 h2
    generalize Sec.zero.cells = C at *
    rw [List.getElem?_eq_getElem (by rw [hl]; exact hj), Option.map_some, getElem!_pos _ _ (by rw [List.size_toArray, hl]; exact hj), List.getElem_toArray]
  · have h1 : (madeCells z129 (n * 129)).size = n * 129 := by simp [madeCells]
    rw [Array.getElem?_eq_none (by omega), List.getElem?_eq_none (by omega)]
end Go.Proofs.Ytekfolppahnpoaa
