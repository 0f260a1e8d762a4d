import Derived.Test.YtgdkiejlggiakaaDSecOf
import Derived.Laws.CopyOwn
namespace Go.Proofs.Ytgdkiejlggiakaa
set_option linter.unusedVariables false
set_option linter.unusedSimpArgs false
open Go.RowKit
theorem wp_copy_own {P : Program} {o : Oper} {a : Act} {w : World} {K : Act → World → Prop} {Q : Exit → Act → World → Prop} (d s : Operand) (dT sT : TypeId)
    (ho : o.op = .call { callee := .builtin .copy, args := #[d, s], argTypes := #[dT, sT] }) (elem : TypeId) (hu : P.underlying dT = some (.slice elem)) (hsz : (P.info? elem).map (·.size) = some 1)
    (g off dLen dCap : Nat) (ad : Addr) (sLen sCap : Nat) (hd : a.eval d = .slice (some ⟨g, off, none⟩) dLen dCap) (hs : a.eval s = .slice (some ad) sLen sCap)
    (cur : List Value) (t : TypeId) (hg : w.heap[g]? = some (.cells cur.toArray t (0, 0))) (cs : List Value) (hn : cs.length = Nat.min sLen dLen)
    (hsrc : ∀ j v, cs[j]? = some v → w.cell? (ad.add j) = some v) (hfit : off + cs.length ≤ cur.length) (h1 : ∀ v ∈ cs, v.oneCell' = true)
    (h : K (a.put o.dst (goInt cs.length)) (w.setRow g (splice cur off cs).toArray)) : Oper.wp P o a w K Q := by
  have hrun := run_copy_row (P := P) w dT sT o.type elem g off dLen dCap ad sLen sCap cur.toArray t cs hu hsz hg hn hsrc (by simpa using hfit) h1
  unfold Oper.wp
  simp [execOp, ho, resolve, invoke, builtin, hd, hs, hrun, Result.andThen]
  show K _ _
  exact h
theorem grown_setRow (w : World) (g : Nat) (cs : Array Value) : w.grownBy (w.setRow g cs) (some g) :=
  ⟨rfl, rfl, rfl, by simp [World.setRow], fun k _ hne => setRow_other w g k cs (fun e => hne (by rw [e]))⟩
/-- the mark of a sector in an image -/
def rmk (t : Bool) : UInt8 := if t then 1 else 0
theorem bv_cons (c : UInt8) (xs : List UInt8) : bv (c :: xs) = .int .u8 (c.toNat : Int) :: bv xs := rfl
theorem splice_get {α : Type} (L : List α) (o : Nat) (v : α) (r : List α) (h : L[o]? = some v) : splice L (o + 1) r = splice L o (v :: r) := by
  have hlt := (List.getElem?_eq_some_iff.1 h).1
  have e : L.set o v = L := by
    apply List.ext_getElem?
    intro i
    rw [List.getElem?_set]
    by_cases hi : o = i
    · subst hi; simp only [if_true, hlt]; exact h.symm
    · simp [hi]
  rw [← splice_step L o v r hlt, e]
set_option maxRecDepth 20000 in
set_option maxHeartbeats 800000 in
theorem lay_t (xs : List UInt8) (t : Bool) (g o : Nat) (L : List Value) (w : World) (hl : xs.length = 128) (hg : w.heap[g]? = some (.cells L.toArray 5 (0, 0))) (hL : o + 129 ≤ L.length) (h0 : L[o]? = some (.int .u8 0)) :
    Calls Try.prog 29 #[.agg (secV xs t).toArray, .slice (some ⟨g, o, none⟩) 129 129] w fun e w' => e = .returned (.tuple #[]) ∧ w'.heap[g]? = some (.cells (splice L o (bv (rmk t :: xs))).toArray 5 (0, 0)) ∧ w.grownBy w' (some g) := by
  obtain ⟨Y, hY⟩ : ∃ Y : List Value, Y = secV xs t := ⟨_, rfl⟩
  rw [← hY]
  obtain ⟨X, hX⟩ : ∃ X : List Value, X = bv xs := ⟨_, rfl⟩
  have HX : Hid (X = bv xs) := hX
  have HXl : Hid (X.length = 128) := by unfold Hid; rw [hX, bv_length, hl]
  have HX1 : Hid (∀ v ∈ X, v.oneCell' = true) := by unfold Hid; rw [hX]; exact bv_one xs
  have hgl : g < w.heap.size := (Array.getElem?_eq_some_iff.1 hg).1
  obtain ⟨W, hW⟩ : ∃ W : World, W = w.alloc (.cells Y.toArray 61) := ⟨_, rfl⟩
  have hH : W.heap[w.heap.size]? = some (.cells Y.toArray 61 (0, 0)) := by rw [hW]; exact heap_alloc_new w _
  have hWg : W.heap[g]? = some (.cells L.toArray 5 (0, 0)) := by rw [hW, heap_alloc_old (h := hgl)]; exact hg
  have hgW : w.grownBy W (some g) := by rw [hW]; exact World.grownBy_alloc w _ _
  have ht : W.cell? ⟨w.heap.size, 128, none⟩ = some (.bool t) := by
    rw [cell_of_row _ _ 128 _ _ _ hH, hY]
    simp [secV, bv_length, hl]
  have hc : W.cell? ⟨g, o, none⟩ = some (.int .u8 0) := by
    rw [cell_of_row _ _ o _ _ _ hWg]
    simpa using h0
  have hf := frozen_of_row W g o _ _ hWg
  have HS : Hid (∀ j v, X[j]? = some v → W.cell? ⟨w.heap.size, j, none⟩ = some v) := by
    intro j v hj
    rw [cell_of_row _ _ j _ _ _ hH, hY]
    have hlt : j < X.length := (List.getElem?_eq_some_iff.1 hj).1
    have hlt2 : j < (bv xs).length := by rw [← hX]; exact hlt
    simp only [secV, List.getElem?_toArray]
    rw [List.getElem?_append_left hlt2, ← hX]
    exact hj
  have hY128 : Y[128]? = some (.bool t) := by rw [hY]; simp [secV, bv_length, hl]
  have hwc : w.cell? ⟨g, o, none⟩ = some (.int .u8 0) := by
    rw [cell_of_row _ _ o _ _ _ hg]
    simpa using h0
  have hwf := frozen_of_row w g o _ _ hg
  have hw1 : (Try.prog.info? 5).map (·.size) = some 1 := by obtain ⟨i0, hi, hz0, hz1, hz2⟩ := info_parts info5; rw [hi, Option.map_some, hz1]
  have HY : Hid (Y = secV xs t) := hY
  have HW : Hid (W = _) := hW
  have Hht : Hid _ := ht
  have HWg : Hid _ := hWg
  have HgW : Hid _ := hgW
  have HLL : Hid (o + 129 ≤ L.length) := hL
  have HL0 : Hid (L[o]? = some (.int .u8 0)) := h0
  have HG : Hid _ := hg
  have HWH : Hid _ := hH
  clear hY hX hW hH hWg hgW ht hc hf hL h0 hg
  cases t
  · go_enter Try.func29, Try.ntmps29
    go_wp2_with fail
    rw [← HW.out]
    refine wp_region_noPanic ?_
    refine wp_region_held_drew (S := (fun _ => True)) (by kernel_rfl) (by exact trivial) (fun hHeld => ?_)
    refine take_at (i := 0) 8 (v := ?_) rfl rfl (by kernel_rfl) (by kernel_rfl) (by kernel_rfl) (fun _ _ _ h => h) (by rfl) ?_ hHeld ?_
    rotate_left
    · (intro w hSw; (try dsimp only at hSw); go_simp; try with_reducible rfl)
    simp only [Act.put, List.setIfInBounds_toArray, List.set_cons_zero, List.set_cons_succ]
    refine take_at (i := 1) 9 (v := ?_) rfl rfl (by kernel_rfl) (by kernel_rfl) (by kernel_rfl) (fun _ _ _ h => h) (by rfl) ?_ hHeld ?_
    rotate_left
    · (intro w hSw; (try dsimp only at hSw); go_simp; try with_reducible rfl)
    simp only [Act.put, List.setIfInBounds_toArray, List.set_cons_zero, List.set_cons_succ]
    refine take_at (i := 2) 10 (v := ?_) rfl rfl (by kernel_rfl) (by kernel_rfl) (by kernel_rfl) (fun _ _ _ h => h) (by rfl) ?_ hHeld ?_
    rotate_left
    · (intro w hSw; (try dsimp only at hSw); go_simp; try with_reducible rfl)
    simp only [Act.put, List.setIfInBounds_toArray, List.set_cons_zero, List.set_cons_succ]
    refine take_at (i := 3) 11 (v := ?_) rfl rfl (by kernel_rfl) (by kernel_rfl) (by kernel_rfl) (fun _ _ _ h => h) (by rfl) ?_ hHeld ?_
    rotate_left
    · (intro w hSw; (try dsimp only at hSw); go_simp; try with_reducible rfl)
    simp only [Act.put, List.setIfInBounds_toArray, List.set_cons_zero, List.set_cons_succ]
    refine run_at (i := 4) rfl (by kernel_rfl) (by rfl) (fun K hK => ?_)
    simp only [List.getElem_toArray, List.getElem_cons_zero, List.getElem_cons_succ]
    refine wp_copy_own _ _ 28 28 (by rfl) 5 Try.underlying28 hw1 g (o + 1) 128 128 ⟨w.heap.size, 0, none⟩ 128 128 (by rfl) (by rfl) L 5 HWg.out X (by rw [HXl.out]; rfl) (fun j v hv => by rw [Addr.add_mid, Nat.zero_add]; exact HS.out j v hv) (by have := HLL.out; rw [HXl.out]; omega) HX1.out ?_
    refine hK.out _ _ (by exact trivial) ?_
    clear hK K
    intro hHeld2
    clear hHeld
    have hHeld := hHeld2
    clear hHeld2
    try simp only [Act.put, List.setIfInBounds_toArray, List.set_cons_zero, List.set_cons_succ]
    refine wpAnyH_done (by kernel_rfl) ?_ _
    refine NoPanic.normal ?_
    go_end0
    refine ⟨rfl, ?_, ?_⟩
    · rw [setRow_heap _ _ _ _ _ _ (show W.drew.heap[g]? = _ from HWg.out), bv_cons, ← HX.out, splice_get L o _ X HL0.out]
      rfl
    · exact (gr_below HgW.out (Below.refl _ _).drew).trans' (grown_setRow _ _ _)
  · obtain ⟨V, hV⟩ : ∃ V : World, V = (w.setCell ⟨g, o, none⟩ (.int .u8 1)).alloc (.cells Y.toArray 61) := ⟨_, rfl⟩
    have hsz : (w.setCell ⟨g, o, none⟩ (.int .u8 1)).heap.size = w.heap.size := by simp
    have HVg : Hid (V.heap[g]? = some (.cells (L.set o (.int .u8 1)).toArray 5 (0, 0))) := by
      unfold Hid
      rw [hV, heap_alloc_old (h := by rw [hsz]; exact hgl), heap_setCell_same w g o _ _ _ HG.out]
      simp
    have hVH : V.heap[w.heap.size]? = some (.cells Y.toArray 61 (0, 0)) := by rw [hV, ← hsz]; exact heap_alloc_new _ _
    have HVS : Hid (∀ j v, X[j]? = some v → V.cell? ⟨w.heap.size, j, none⟩ = some v) := by
      intro j v hj
      have h1 := HS.out j v hj
      rw [cell_of_row _ _ j _ _ _ HWH.out] at h1
      rw [cell_of_row _ _ j _ _ _ hVH]
      exact h1
    have HVW : Hid (w.grownBy V (some g)) := by unfold Hid; rw [hV]; exact (gset1 w g o _).trans' (World.grownBy_alloc _ _ _)
    have HV : Hid (V = _) := hV
    clear hV hVH hsz
    go_enter Try.func29, Try.ntmps29
    go_wp2_with fail
    rw [← HV.out]
    refine wp_region_noPanic ?_
    refine wp_region_held_drew (S := (fun _ => True)) (by kernel_rfl) (by exact trivial) (fun hHeld => ?_)
    refine take_at (i := 0) 8 (v := ?_) rfl rfl (by kernel_rfl) (by kernel_rfl) (by kernel_rfl) (fun _ _ _ h => h) (by rfl) ?_ hHeld ?_
    rotate_left
    · (intro w hSw; (try dsimp only at hSw); go_simp; try with_reducible rfl)
    simp only [Act.put, List.setIfInBounds_toArray, List.set_cons_zero, List.set_cons_succ]
    refine take_at (i := 1) 9 (v := ?_) rfl rfl (by kernel_rfl) (by kernel_rfl) (by kernel_rfl) (fun _ _ _ h => h) (by rfl) ?_ hHeld ?_
    rotate_left
    · (intro w hSw; (try dsimp only at hSw); go_simp; try with_reducible rfl)
    simp only [Act.put, List.setIfInBounds_toArray, List.set_cons_zero, List.set_cons_succ]
    refine take_at (i := 2) 10 (v := ?_) rfl rfl (by kernel_rfl) (by kernel_rfl) (by kernel_rfl) (fun _ _ _ h => h) (by rfl) ?_ hHeld ?_
    rotate_left
    · (intro w hSw; (try dsimp only at hSw); go_simp; try with_reducible rfl)
    simp only [Act.put, List.setIfInBounds_toArray, List.set_cons_zero, List.set_cons_succ]
    refine take_at (i := 3) 11 (v := ?_) rfl rfl (by kernel_rfl) (by kernel_rfl) (by kernel_rfl) (fun _ _ _ h => h) (by rfl) ?_ hHeld ?_
    rotate_left
    · (intro w hSw; (try dsimp only at hSw); go_simp; try with_reducible rfl)
    simp only [Act.put, List.setIfInBounds_toArray, List.set_cons_zero, List.set_cons_succ]
    refine run_at (i := 4) rfl (by kernel_rfl) (by rfl) (fun K hK => ?_)
    simp only [List.getElem_toArray, List.getElem_cons_zero, List.getElem_cons_succ]
    refine wp_copy_own _ _ 28 28 (by rfl) 5 Try.underlying28 hw1 g (o + 1) 128 128 ⟨w.heap.size, 0, none⟩ 128 128 (by rfl) (by rfl) (L.set o (.int .u8 1)) 5 HVg.out X (by rw [HXl.out]; rfl) (fun j v hv => by rw [Addr.add_mid, Nat.zero_add]; exact HVS.out j v hv) (by have := HLL.out; rw [HXl.out, List.length_set]; omega) HX1.out ?_
    refine hK.out _ _ (by exact trivial) ?_
    clear hK K
    intro hHeld2
    clear hHeld
    have hHeld := hHeld2
    clear hHeld2
    try simp only [Act.put, List.setIfInBounds_toArray, List.set_cons_zero, List.set_cons_succ]
    refine wpAnyH_done (by kernel_rfl) ?_ _
    refine NoPanic.normal ?_
    go_end0
    refine ⟨rfl, ?_, ?_⟩
    · rw [setRow_heap _ _ _ _ _ _ (show V.drew.heap[g]? = _ from HVg.out), bv_cons, ← HX.out, splice_step L o _ X (by have := HLL.out; omega)]
      rfl
    · exact (gr_below HVW.out (Below.refl _ _).drew).trans' (grown_setRow _ _ _)
end Go.Proofs.Ytgdkiejlggiakaa
