import Derived.Test.YtibepnilhmbpeaaDoorDSecs
import Derived.Test.YtibepnilhmbpeaaDoorDTell
namespace Go.Proofs.YtibepnilhmbpeaaDoor
set_option linter.unusedVariables false
set_option linter.unusedSimpArgs false
open Go.RowKit
theorem made_u8s (n : Nat) : (madeCells (Value.cells (.int .u8 0)) (n * 1)) = (List.replicate n (Value.int .u8 0)).toArray := by
  apply Array.ext'
  apply List.ext_getElem
  · simp [madeCells]
  · intro i h1 h2
    simp [madeCells, Value.cells, Nat.mod_one]
theorem make_bytes (n : Nat) (hn : n ≤ 140737488355328) (w : World) : (Instr.makeSlice 27 (.int .i64 (n : Int)) (.int .i64 (n : Int))).run Tryd.prog w = .ok (.slice (some ⟨w.heap.size, 0, none⟩) n n) (w.alloc (.cells (List.replicate n (Value.int .u8 0)).toArray 5)) := by
  obtain ⟨i0, hi, hz0, hz1, hz2⟩ := info_parts info5
  have hmk := run_make (P := Tryd.prog) w 27 5 i0 (.int .u8 0) Tryd.underlying27 hi hz0 .i64 .i64 (n : Int) (n : Int) (by omega) (Int.le_refl _) (by rw [hz2]; omega) (by omega)
  rw [hz1, Int.toNat_natCast, made_u8s] at hmk
  exact hmk
/-- the sectors of the disk at p lie in block g -/
structure SecAt (w : World) (p g : Nat) (S : List Sec) : Prop where
  ok : SOk S
  one : 1 ≤ S.length
  most : S.length ≤ 65536
  head : ∃ cap, w.cell? ⟨p, 0, none⟩ = some (.slice (some ⟨g, 0, none⟩) S.length cap) ∧ S.length ≤ cap ∧ cap ≤ 65536
  row : ∀ k (h : k < S.length), w.rangeAt g (k * 129) S[k].cells
theorem rangeAt_below {w w' : World} {b o : Nat} {cs : List Value} (h : w.rangeAt b o cs) (hb : Below w.heap.size w w') : w'.rangeAt b o cs := fun j v hv => (hb.cell (World.block_lt_of_cell? w _ (h j v hv))).trans (h j v hv)
end Go.Proofs.YtibepnilhmbpeaaDoor
namespace Go.Proofs.YtibepnilhmbpeaaDoor
set_option linter.unusedVariables false
set_option linter.unusedSimpArgs false
open Go.RowKit
/-- a disk that was just made, its sectors S -/
structure NewAt (w : World) (p g m : Nat) (S : List Sec) : Prop where
  ok : SOk S
  one : 1 ≤ S.length
  most : S.length ≤ 65536
  hp : w.heap[p]? = some (.cells #[.slice (some ⟨g, 0, none⟩) S.length S.length, .map (some m), .bool false, .int .i64 (-1)] 70 (0, 0))
  hg : w.heap[g]? = some (.cells (secs S).toArray 89 (0, 0))
  hm : w.heap[m]? = some (.map #[] 0)
theorem NewAt.secAt {w : World} {p g m : Nat} {S : List Sec} (h : NewAt w p g m S) : SecAt w p g S :=
  ⟨h.ok, h.one, h.most, ⟨S.length, by rw [cell_of_row _ _ 0 _ _ _ h.hp]; rfl, Nat.le_refl _, h.most⟩, fun k hk => secs_range h.ok h.hg k hk⟩
theorem NewAt.below {w w' : World} {p g m : Nat} {S : List Sec} (h : NewAt w p g m S) (hb : Below w.heap.size w w') : NewAt w' p g m S :=
  ⟨h.ok, h.one, h.most, (hb.block _ (Array.getElem?_eq_some_iff.1 h.hp).1).trans h.hp, (hb.block _ (Array.getElem?_eq_some_iff.1 h.hg).1).trans h.hg, (hb.block _ (Array.getElem?_eq_some_iff.1 h.hm).1).trans h.hm⟩
theorem NewAt.set {w : World} {p g m : Nat} {S : List Sec} (h : NewAt w p g m S) (k : Nat) (hk : k < S.length) (y : Sec) (hy : y.ok) (hpg : p ≠ g) (hmg : m ≠ g) : NewAt (w.drew.setCells g (k * 129) y.cells) p g m (S.set k y) := by
  have hl : (S.set k y).length = S.length := by simp
  refine ⟨h.ok.set k y hy, by rw [hl]; exact h.one, by rw [hl]; exact h.most, ?_, ?_, ?_⟩
  · rw [heap_setCells_far g _ _ _ p hpg, hl]; exact h.hp
  · have h1 : k * 129 + y.cells.length ≤ (secs S).length := by
      rw [secs_len h.ok, Sec.cells_len hy]
      have : (k + 1) * 129 ≤ S.length * 129 := Nat.mul_le_mul_right _ hk
      omega
    rw [← secs_set h.ok k hk y hy]
    exact heap_setCells g _ y.cells (k * 129) (secs S) w.drew h.hg h1
  · rw [heap_setCells_far g _ _ _ m hmg]; exact h.hm
theorem newW_at (w : World) (n : Nat) (h1 : 1 ≤ n) (h2 : n ≤ 65536) : NewAt (newW w n) (w.heap.size + 2) w.heap.size (w.heap.size + 1) (List.replicate n Sec.zero) := by
  have e1 : (newW w n).heap[w.heap.size + 2]? = some (.cells #[.slice (some ⟨w.heap.size, 0, none⟩) n n, .map (some (w.heap.size + 1)), .bool false, .int .i64 (-1)] 70 (0, 0)) := by
    unfold newW
    have := heap_alloc_new ((w.alloc (.cells (madeCells z129 (n * 129)) 89)).alloc (.map #[] 0)) (.cells #[.slice (some ⟨w.heap.size, 0, none⟩) n n, .map (some (w.heap.size + 1)), .bool false, .int .i64 (-1)] 70)
    simpa using this
  refine ⟨SOk.rep n, by simpa using h1, by simpa using h2, by simpa using e1, ?_, ?_⟩
  · rw [← made_secs]
    unfold newW
    rw [heap_alloc_old (h := by simp; omega), heap_alloc_old (h := by simp)]
    exact heap_alloc_new w _
  · unfold newW
    rw [heap_alloc_old (h := by simp)]
    have := heap_alloc_new (w.alloc (.cells (madeCells z129 (n * 129)) 89)) (.map #[] 0)
    simpa using this
end Go.Proofs.YtibepnilhmbpeaaDoor
namespace Go.Proofs.YtibepnilhmbpeaaDoor
set_option linter.unusedVariables false
set_option linter.unusedSimpArgs false
open Go.RowKit
theorem wpList_built {P : Program} {ops : Array Oper} {rest : List Oper} {o : Oper} {a : Act} {w : World} {Q : Exit → Act → World → Prop} (hg : o.guard = none) (t : TypeId) (parts : Array (Nat × Operand)) (ho : o.op = .build t parts) (cells : Array Value)
    (hb : P.built t (parts.map fun (i, x) => (i, a.eval x)).toList = some cells) (h : wpList P ops Q rest (a.put o.dst (.agg cells)) w) : wpList P ops Q (o :: rest) a w :=
  wpList_build hg t parts ho (by rw [hb]; rfl) (by rw [hb]; exact h)
set_option maxRecDepth 20000 in
theorem built_textOnly (X : List Value) (h : X.length = 128) : Tryd.prog.built 89 [(0, .agg X.toArray)] = some (X ++ [Value.bool false]).toArray := by
  rw [built_at]
  simp only [Instr.fill]
  simp [Instr.fill, Value.cells, h]
  refine ⟨by rw [z129_size]; decide, ?_⟩
  rw [fold_set X 0 z129 (by rw [z129_size, h]; decide)]
  congr 1
  unfold splice
  rw [h]
  simp [z129]
theorem built_torn : Tryd.prog.built 89 [(1, Value.bool true)] = some (secV (List.replicate 128 0) true).toArray := by kernel_rfl
/-- the texts vs lie one behind the other in block b -/
def Texts (w : World) (a : Option Addr) (vs : List (List UInt8)) : Prop := ∀ k (h : k < vs.length), ∃ b, a = some ⟨b, 0, none⟩ ∧ w.rangeAt b (k * 128) (bv vs[k])
theorem Texts.below {w w' : World} {a : Option Addr} {vs : List (List UInt8)} (h : Texts w a vs) (hb : Below w.heap.size w w') : Texts w' a vs := fun k hk => by
  obtain ⟨b, e, hr⟩ := h k hk
  exact ⟨b, e, rangeAt_below hr hb⟩
theorem Texts.nil (w : World) (a : Option Addr) : Texts w a [] := fun k hk => absurd hk (Nat.not_lt_zero k)
def Sec.bad : Sec := ⟨List.replicate 128 0, true⟩
/-- the sector, when of its versions that of this number has reached the disk -/
def afterS (s : Sec) (n : Int) (vs : List (List UInt8)) : Sec :=
  if n = 0 then s else if 0 < n ∧ n ≤ vs.length then ⟨vs.getD (n.toNat - 1) [], false⟩ else Sec.bad
theorem afterS_ok {s : Sec} (h : s.ok) (n : Int) {vs : List (List UInt8)} (hv : ∀ t ∈ vs, t.length = 128) : (afterS s n vs).ok := by
  unfold afterS
  split
  · exact h
  · split
    · rename_i h1 h2
      refine hv _ ?_
      rw [List.getD_eq_getElem?_getD, List.getElem?_eq_getElem (by omega), Option.getD_some]
      exact List.getElem_mem _
    · simp [Sec.bad, Sec.ok]
set_option maxRecDepth 20000 in
set_option maxHeartbeats 800000 in
theorem after_t (s : Sec) (n : Int) (a : Option Addr) (c : Nat) (vs : List (List UInt8)) (w : World) (hs : s.ok) (hv : ∀ t ∈ vs, t.length = 128) (hvn : vs.length ≤ 140737488355328) (hx : Texts w a vs) :
    Calls Tryd.prog 62 #[.agg s.cells.toArray, .int .i64 n, .slice a vs.length c] w fun e w' => e = .returned (.agg (afterS s n vs).cells.toArray) ∧ Below w.heap.size w w' := by
  have hz := (zero_of_info info_sect).1
  obtain ⟨Z, hZ⟩ : ∃ Z : Array Value, Z = z129 := ⟨_, rfl⟩
  rw [← hZ] at hz
  have HZs : Hid (Z.size = 129) := by unfold Hid; rw [hZ]; exact z129_size
  have HIs : Hid ((Tryd.prog.info? 89).map (·.size) = some 129) := (zero_of_info info_sect).2
  have HIt : Hid ((Tryd.prog.info? 87).map (·.size) = some 128) := (zero_of_info info_text).2
  obtain ⟨C, hC⟩ : ∃ C : List Value, C = s.cells := ⟨_, rfl⟩
  have HC : Hid (C = s.cells) := hC
  have HCl : Hid (C.length = 129) := by unfold Hid; rw [hC]; exact Sec.cells_len hs
  rw [← hC]
  obtain ⟨Y, hY⟩ : ∃ Y : List Value, Y = (afterS s n vs).cells := ⟨_, rfl⟩
  have HY : Hid (Y = (afterS s n vs).cells) := hY
  have HYl : Hid (Y.length = 129) := by unfold Hid; rw [hY]; exact Sec.cells_len (afterS_ok hs n hv)
  have HYs : Hid (Y.toArray.size = 129) := by unfold Hid; rw [List.size_toArray]; exact HYl.out
  have HY1 : Hid (∀ v ∈ Y, v.oneCell' = true) := by unfold Hid; rw [hY]; exact secV_one _ _
  rw [← hY]
  obtain ⟨W, hW⟩ : ∃ W : World, W = (w.alloc (.cells C.toArray 89)).alloc (.cells Z 89) := ⟨_, rfl⟩
  have HW : Hid (W = _) := hW
  have HWb : Hid (Below w.heap.size w W) := by unfold Hid; rw [hW]; exact al (al (Below.refl _ _) _) _
  have HW0 : Hid (W.heap[w.heap.size]? = some (.cells C.toArray 89 (0, 0))) := by
    unfold Hid; rw [hW, heap_alloc_old (h := by simp)]; exact heap_alloc_new w _
  have HW1 : Hid (W.heap[w.heap.size + 1]? = some (.cells Z 89 (0, 0))) := by
    unfold Hid; rw [hW]; simpa using heap_alloc_new (w.alloc (.cells C.toArray 89)) (.cells Z 89)
  have HFin : Hid (∀ fn tmps, fn.results = #[.cell 6 89] → (tmps : Array Value).getD 6 undef = .pointer (some ⟨w.heap.size + 1, 0, none⟩) → (results fn tmps).run Tryd.prog (W.setCells (w.heap.size + 1) 0 Y) = .ok (.agg Y.toArray) (W.setCells (w.heap.size + 1) 0 Y)) := by
    intro fn tmps h1 h2
    refine results_cell_row h1 tmps _ (w.heap.size + 1) 89 Y.toArray (0, 0) _ h2 ?_ Tryd.underlying89 rfl (by rw [HIs.out, HYs.out])
    rw [heap_setCells _ _ _ _ Z.toList _ (by rw [Array.toArray_toList]; exact HW1.out) (by rw [HYl.out, Array.length_toList, HZs.out]; decide), splice_all _ _ (by rw [HYl.out, Array.length_toList, HZs.out])]
  have HFb : Hid (Below w.heap.size w (W.setCells (w.heap.size + 1) 0 Y)) := below_setCells HWb.out (Nat.le_succ _) _ _
  have HTh : Hid (W.there (w.heap.size + 1) 0 Y.toArray.size) := there_row ⟨HW1.out, by rw [HYs.out, HZs.out]; exact Nat.le_refl _⟩
  clear hZ hC hY hW
  by_cases h0 : n = 0
  · have HE : Hid (Y = C) := by unfold Hid; rw [HY.out, HC.out, afterS, if_pos h0]
    subst h0
    go_enter Tryd.func62, Tryd.ntmps62
    go_wp2_with (first
      | (refine wpList_load_row rfl 89 _ rfl w.heap.size rfl 89 C.toArray (0, 0) _ (by rw [← HW.out]; exact HW0.out) Tryd.underlying89 rfl (by rw [HIs.out, List.size_toArray, HCl.out]) ?_; rw [← HW.out, ← HE.out])
      | (refine wpList_store_mid rfl 89 _ _ rfl (w.heap.size + 1) 0 Y.toArray rfl rfl HTh.out (by rw [HIs.out, HYs.out]) (all_oneCell_toArray HY1.out) ?_))
    exact bodyPost_ret (v := .agg Y.toArray) (HFin.out _ _ Tryd.results62 rfl) rfl ⟨rfl, HFb.out⟩
  · by_cases h1 : 0 < n ∧ n ≤ vs.length
    · obtain ⟨h1, h2⟩ := h1
      obtain ⟨k, rfl⟩ : ∃ k : Nat, n = (k : Int) + 1 := ⟨(n - 1).toNat, by omega⟩
      have hk : k < vs.length := by omega
      obtain ⟨b, rfl, hr⟩ := hx k hk
      obtain ⟨X, hX⟩ : ∃ X : List Value, X = bv vs[k] := ⟨_, rfl⟩
      have HXl : Hid (X.length = 128) := by unfold Hid; rw [hX, bv_length]; exact hv _ (List.getElem_mem hk)
      have HR : Hid (W.rangeAt b (k * 128) X) := by unfold Hid; rw [hX]; exact rangeAt_below hr HWb.out
      have HE : Hid (Tryd.prog.built 89 [(0, .agg X.toArray)] = some Y.toArray) := by
        unfold Hid
        rw [built_textOnly X HXl.out, HY.out, afterS, if_neg h0, if_pos ⟨h1, h2⟩, hX]
        simp [Sec.cells, secV, hk]
      have hk0 : (0 : Int) ≤ (k : Int) := by omega
      have hk2 : (k : Int) ≤ 140737488355328 := by omega
      have hk3 : wrap64 (k : Int) = (k : Int) := by unfold wrap64; omega
      have hk1 : (k : Int) < (vs.length : Int) := by omega
      clear hX hr
      go_enter Tryd.func62, Tryd.ntmps62
      go_wp2_with (first
        | (refine wpList_load_mid rfl 87 _ rfl b (k * 128) (by rfl) X _ (by rw [← HW.out]; exact HR.out) Tryd.underlying87 rfl (by rw [HIt.out, HXl.out]) ?_; rw [← HW.out])
        | (refine wpList_built rfl 89 _ rfl Y.toArray (by simp only [List.map_toArray, List.map_cons, List.map_nil]; exact HE.out) ?_)
        | (refine wpList_store_mid rfl 89 _ _ rfl (w.heap.size + 1) 0 Y.toArray rfl rfl HTh.out (by rw [HIs.out, HYs.out]) (all_oneCell_toArray HY1.out) ?_))
      exact bodyPost_ret (v := .agg Y.toArray) (HFin.out _ _ Tryd.results62 rfl) rfl ⟨rfl, HFb.out⟩
    · have HE : Hid (Tryd.prog.built 89 [(1, .bool true)] = some Y.toArray) := by
        unfold Hid
        rw [built_torn, HY.out, afterS, if_neg h0, if_neg h1]
        rfl
      by_cases h3 : 0 < n
      · have h4 : ¬ n ≤ (vs.length : Int) := fun h => h1 ⟨h3, h⟩
        clear h1
        go_enter Tryd.func62, Tryd.ntmps62
        go_wp2_with (first
          | (refine wpList_built rfl 89 _ rfl Y.toArray (by simp only [List.map_toArray, List.map_cons, List.map_nil]; exact HE.out) ?_; rw [← HW.out])
          | (refine wpList_store_mid rfl 89 _ _ rfl (w.heap.size + 1) 0 Y.toArray rfl rfl HTh.out (by rw [HIs.out, HYs.out]) (all_oneCell_toArray HY1.out) ?_))
        exact bodyPost_ret (v := .agg Y.toArray) (HFin.out _ _ Tryd.results62 rfl) rfl ⟨rfl, HFb.out⟩
      · clear h1
        go_enter Tryd.func62, Tryd.ntmps62
        go_wp2_with (first
          | (refine wpList_built rfl 89 _ rfl Y.toArray (by simp only [List.map_toArray, List.map_cons, List.map_nil]; exact HE.out) ?_; rw [← HW.out])
          | (refine wpList_store_mid rfl 89 _ _ rfl (w.heap.size + 1) 0 Y.toArray rfl rfl HTh.out (by rw [HIs.out, HYs.out]) (all_oneCell_toArray HY1.out) ?_))
        exact bodyPost_ret (v := .agg Y.toArray) (HFin.out _ _ Tryd.results62 rfl) rfl ⟨rfl, HFb.out⟩
end Go.Proofs.YtibepnilhmbpeaaDoor
