import Derived.Test.YtibepnilhmbpeaaDoorDSecs
import Derived.Test.YtibepnilhmbpeaaDoorDTell
namespace Go.Proofs.YtibepnilhmbpeaaDoor
set_option linter.unusedVariables false
set_option linter.unusedSimpArgs false
open Go.RowKit
theorem made_u8s (n : Nat) : (madeCells (Value.cells (.int .u8 0)) (n * 1)) = (List.replicate n (Value.int .u8 0)).toArray := by
  apply Array.ext'
  apply List.ext_getElem
  · simp [madeCells]
  · intro i h1 h2
    simp [madeCells, Value.cells, Nat.mod_one]
theorem make_bytes (n : Nat) (hn : n ≤ 140737488355328) (w : World) : (Instr.makeSlice 27 (.int .i64 (n : Int)) (.int .i64 (n : Int))).run Tryd.prog w = .ok (.slice (some ⟨w.heap.size, 0, none⟩) n n) (w.alloc (.cells (List.replicate n (Value.int .u8 0)).toArray 5)) := by
  obtain ⟨i0, hi, hz0, hz1, hz2⟩ := info_parts info5
  have hmk := run_make (P := Tryd.prog) w 27 5 i0 (.int .u8 0) Tryd.underlying27 hi hz0 .i64 .i64 (n : Int) (n : Int) (by omega) (Int.le_refl _) (by rw [hz2]; omega) (by omega)
  rw [hz1, Int.toNat_natCast, made_u8s] at hmk
  exact hmk
/-- the sectors of the disk at p lie in block g -/
structure SecAt (w : World) (p g : Nat) (S : List Sec) : Prop where
  ok : SOk S
  one : 1 ≤ S.length
  most : S.length ≤ 65536
  head : ∃ cap, w.cell? ⟨p, 0, none⟩ = some (.slice (some ⟨g, 0, none⟩) S.length cap) ∧ S.length ≤ cap ∧ cap ≤ 65536
  row : ∀ k (h : k < S.length), w.rangeAt g (k * 129) S[k].cells
theorem rangeAt_below {w w' : World} {b o : Nat} {cs : List Value} (h : w.rangeAt b o cs) (hb : Below w.heap.size w w') : w'.rangeAt b o cs := fun j v hv => (hb.cell (World.block_lt_of_cell? w _ (h j v hv))).trans (h j v hv)
end Go.Proofs.YtibepnilhmbpeaaDoor
namespace Go.Proofs.YtibepnilhmbpeaaDoor
set_option linter.unusedVariables false
set_option linter.unusedSimpArgs false
open Go.RowKit
/-- a disk that was just made, its sectors S -/
structure NewAt (w : World) (p g m : Nat) (S : List Sec) : Prop where
  ok : SOk S
  one : 1 ≤ S.length
  most : S.length ≤ 65536
  hp : w.heap[p]? = some (.cells #[.slice (some ⟨g, 0, none⟩) S.length S.length, .map (some m), .bool false, .int .i64 (-1)] 70 (0, 0))
  hg : w.heap[g]? = some (.cells (secs S).toArray 89 (0, 0))
  hm : w.heap[m]? = some (.map #[] 0)
theorem NewAt.secAt {w : World} {p g m : Nat} {S : List Sec} (h : NewAt w p g m S) : SecAt w p g S :=
  ⟨h.ok, h.one, h.most, ⟨S.length, by rw [cell_of_row _ _ 0 _ _ _ h.hp]; rfl, Nat.le_refl _, h.most⟩, fun k hk => secs_range h.ok h.hg k hk⟩
theorem NewAt.below {w w' : World} {p g m : Nat} {S : List Sec} (h : NewAt w p g m S) (hb : Below w.heap.size w w') : NewAt w' p g m S :=
  ⟨h.ok, h.one, h.most, (hb.block _ (Array.getElem?_eq_some_iff.1 h.hp).1).trans h.hp, (hb.block _ (Array.getElem?_eq_some_iff.1 h.hg).1).trans h.hg, (hb.block _ (Array.getElem?_eq_some_iff.1 h.hm).1).trans h.hm⟩
theorem NewAt.set {w : World} {p g m : Nat} {S : List Sec} (h : NewAt w p g m S) (k : Nat) (hk : k < S.length) (y : Sec) (hy : y.ok) (hpg : p ≠ g) (hmg : m ≠ g) : NewAt (w.drew.setCells g (k * 129) y.cells) p g m (S.set k y) := by
  have hl : (S.set k y).length = S.length := by simp
  refine ⟨h.ok.set k y hy, by rw [hl]; exact h.one, by rw [hl]; exact h.most, ?_, ?_, ?_⟩
  · rw [heap_setCells_far g _ _ _ p hpg, hl]; exact h.hp
  · have h1 : k * 129 + y.cells.length ≤ (secs S).length := by
      rw [secs_len h.ok, Sec.cells_len hy]
      have : (k + 1) * 129 ≤ S.length * 129 := Nat.mul_le_mul_right _ hk
      omega
    rw [← secs_set h.ok k hk y hy]
    exact heap_setCells g _ y.cells (k * 129) (secs S) w.drew h.hg h1
  · rw [heap_setCells_far g _ _ _ m hmg]; exact h.hm
theorem newW_at (w : World) (n : Nat) (h1 : 1 ≤ n) (h2 : n ≤ 65536) : NewAt (newW w n) (w.heap.size + 2) w.heap.size (w.heap.size + 1) (List.replicate n Sec.zero) := by
  have e1 : (newW w n).heap[w.heap.size + 2]? = some (.cells #[.slice (some ⟨w.heap.size, 0, none⟩) n n, .map (some (w.heap.size + 1)), .bool false, .int .i64 (-1)] 70 (0, 0)) := by
    unfold newW
    have := heap_alloc_new ((w.alloc (.cells (madeCells z129 (n * 129)) 89)).alloc (.map #[] 0)) (.cells #[.slice (some ⟨w.heap.size, 0, none⟩) n n, .map (some (w.heap.size + 1)), .bool false, .int .i64 (-1)] 70)
    simpa using this
  refine ⟨SOk.rep n, by simpa using h1, by simpa using h2, by simpa using e1, ?_, ?_⟩
  · rw [← made_secs]
    unfold newW
    rw [heap_alloc_old (h := by simp; omega), heap_alloc_old (h := by simp)]
    exact heap_alloc_new w _
  · unfold newW
    rw [heap_alloc_old (h := by simp)]
    have := heap_alloc_new (w.alloc (.cells (madeCells z129 (n * 129)) 89)) (.map #[] 0)
    simpa using this
end Go.Proofs.YtibepnilhmbpeaaDoor
namespace Go.Proofs.YtibepnilhmbpeaaDoor
set_option linter.unusedVariables false
set_option linter.unusedSimpArgs false
open Go.RowKit
theorem wpList_built {P : Program} {ops : Array Oper} {rest : List Oper} {o : Oper} {a : Act} {w : World} {Q : Exit → Act → World → Prop} (hg : o.guard = none) (t : TypeId) (parts : Array (Nat × Operand)) (ho : o.op = .build t parts) (cells : Array Value)
    (hb : P.built t (parts.map fun (i, x) => (i, a.eval x)).toList = some cells) (h : wpList P ops Q rest (a.put o.dst (.agg cells)) w) : wpList P ops Q (o :: rest) a w :=
  wpList_build hg t parts ho (by rw [hb]; rfl) (by rw [hb]; exact h)
set_option maxRecDepth 20000 in
theorem built_textOnly (X : List Value) (h : X.length = 128) : Tryd.prog.built 89 [(0, .agg X.toArray)] = some (X ++ [Value.bool false]).toArray := by
  rw [built_at]
  simp only [Instr.fill]
  simp [Instr.fill, Value.cells, h]
  refine ⟨by rw [z129_size]; decide, ?_⟩
  rw [fold_set X 0 z129 (by rw [z129_size, h]; decide)]
  congr 1
  unfold splice
  rw [h]
  simp [z129]
theorem built_torn : Tryd.prog.built 89 [(1, Value.bool true)] = some (secV (List.replicate 128 0) true).toArray := by kernel_rfl
/-- the texts vs lie one behind the other in block b -/
def Texts (w : World) (a : Option Addr) (vs : List (List UInt8)) : Prop := ∀ k (h : k < vs.length), ∃ b, a = some ⟨b, 0, none⟩ ∧ w.rangeAt b (k * 128) (bv vs[k])
theorem Texts.below {w w' : World} {a : Option Addr} {vs : List (List UInt8)} (h : Texts w a vs) (hb : Below w.heap.size w w') : Texts w' a vs := fun k hk => by
  obtain ⟨b, e, hr⟩ := h k hk
  exact ⟨b, e, rangeAt_below hr hb⟩
theorem Texts.nil (w : World) (a : Option Addr) : Texts w a [] := fun k hk => absurd hk (Nat.not_lt_zero k)
def Sec.bad : Sec := ⟨List.replicate 128 0, true⟩
/-- the sector, when of its versions that of this number has reached the disk -/
def afterS (s : Sec) (n : Int) (vs : List (List UInt8)) : Sec :=
  if n = 0 then s else if 0 < n ∧ n ≤ vs.length then ⟨vs.getD (n.toNat - 1) [], false⟩ else Sec.bad
theorem afterS_ok {s : Sec} (h : s.ok) (n : Int) {vs : List (List UInt8)} (hv : ∀ t ∈ vs, t.length = 128) : (afterS s n vs).ok := by
  unfold afterS
  split
  · exact h
  · split
    · rename_i h1 h2
      refine hv _ ?_
      rw [List.getD_eq_getElem?_getD, List.getElem?_eq_getElem (by omega), Option.getD_some]
      exact List.getElem_mem _
    · simp [Sec.bad, Sec.ok]
set_option maxRecDepth 20000 in
set_option maxHeartbeats 800000 in
theorem after_t (s : Sec) (n : Int) (a : Option Addr) (c : Nat) (vs : List (List UInt8)) (w : World) (hs : s.ok) (hv : ∀ t ∈ vs, t.length = 128) (hvn : vs.length ≤ 140737488355328) (hx : Texts w a vs) :
    Calls Tryd.prog 62 #[.agg s.cells.toArray, .int .i64 n, .slice a vs.length c] w fun e w' => e = .returned (.agg (afterS s n vs).cells.toArray) ∧ Below w.heap.size w w' := by
  have hz := (zero_of_info info_sect).1
  obtain ⟨Z, hZ⟩ : ∃ Z : Array Value, Z = z129 := ⟨_, rfl⟩
  rw [← hZ] at hz
  have HZs : Hid (Z.size = 129) := by unfold Hid; rw [hZ]; exact z129_size
  have HIs : Hid ((Tryd.prog.info? 89).map (·.size) = some 129) := (zero_of_info info_sect).2
  have HIt : Hid ((Tryd.prog.info? 87).map (·.size) = some 128) := (zero_of_info info_text).2
  obtain ⟨C, hC⟩ : ∃ C : List Value, C = s.cells := ⟨_, rfl⟩
  have HC : Hid (C = s.cells) := hC
  have HCl : Hid (C.length = 129) := by unfold Hid; rw [hC]; exact Sec.cells_len hs
  rw [← hC]
  obtain ⟨Y, hY⟩ : ∃ Y : List Value, Y = (afterS s n vs).cells := ⟨_, rfl⟩
  have HY : Hid (Y = (afterS s n vs).cells) := hY
  have HYl : Hid (Y.length = 129) := by unfold Hid; rw [hY]; exact Sec.cells_len (afterS_ok hs n hv)
  have HYs : Hid (Y.toArray.size = 129) := by unfold Hid; rw [List.size_toArray]; exact HYl.out
  have HY1 : Hid (∀ v ∈ Y, v.oneCell' = true) := by unfold Hid; rw [hY]; exact secV_one _ _
  rw [← hY]
  obtain ⟨W, hW⟩ : ∃ W : World, W = (w.alloc (.cells C.toArray 89)).alloc (.cells Z 89) := ⟨_, rfl⟩
  have HW : Hid (W = _) := hW
  have HWb : Hid (Below w.heap.size w W) := by unfold Hid; rw [hW]; exact al (al (Below.refl _ _) _) _
  have HW0 : Hid (W.heap[w.heap.size]? = some (.cells C.toArray 89 (0, 0))) := by
    unfold Hid; rw [hW, heap_alloc_old (h := by simp)]; exact heap_alloc_new w _
  have HW1 : Hid (W.heap[w.heap.size + 1]? = some (.cells Z 89 (0, 0))) := by
    unfold Hid; rw [hW]; simpa using heap_alloc_new (w.alloc (.cells C.toArray 89)) (.cells Z 89)
  have HFin : Hid (∀ fn tmps, fn.results = #[.cell 6 89] → (tmps : Array Value).getD 6 undef = .pointer (some ⟨w.heap.size + 1, 0, none⟩) → (results fn tmps).run Tryd.prog (W.setCells (w.heap.size + 1) 0 Y) = .ok (.agg Y.toArray) (W.setCells (w.heap.size + 1) 0 Y)) := by
    intro fn tmps h1 h2
    refine results_cell_row h1 tmps _ (w.heap.size + 1) 89 Y.toArray (0, 0) _ h2 ?_ Tryd.underlying89 rfl (by rw [HIs.out, HYs.out])
    rw [heap_setCells _ _ _ _ Z.toList _ (by rw [Array.toArray_toList]; exact HW1.out) (by rw [HYl.out, Array.length_toList, HZs.out]; decide), splice_all _ _ (by rw [HYl.out, Array.length_toList, HZs.out])]
  have HFb : Hid (Below w.heap.size w (W.setCells (w.heap.size + 1) 0 Y)) := below_setCells HWb.out (Nat.le_succ _) _ _
  have HTh : Hid (W.there (w.heap.size + 1) 0 Y.toArray.size) := there_row ⟨HW1.out, by rw [HYs.out, HZs.out]; exact Nat.le_refl _⟩
  clear hZ hC hY hW
  by_cases h0 : n = 0
  · have HE : Hid (Y = C) := by unfold Hid; rw [HY.out, HC.out, afterS, if_pos h0]
    subst h0
    go_enter Tryd.func62, Tryd.ntmps62
    go_wp2_with (first
      | (refine wpList_load_row rfl 89 _ rfl w.heap.size rfl 89 C.toArray (0, 0) _ (by rw [← HW.out]; exact HW0.out) Tryd.underlying89 rfl (by rw [HIs.out, List.size_toArray, HCl.out]) ?_; rw [← HW.out, ← HE.out])
      | (refine wpList_store_mid rfl 89 _ _ rfl (w.heap.size + 1) 0 Y.toArray rfl rfl HTh.out (by rw [HIs.out, HYs.out]) (all_oneCell_toArray HY1.out) ?_))
    exact bodyPost_ret (v := .agg Y.toArray) (HFin.out _ _ Tryd.results62 rfl) rfl ⟨rfl, HFb.out⟩
  · by_cases h1 : 0 < n ∧ n ≤ vs.length
    · obtain ⟨h1, h2⟩ := h1
      obtain ⟨k, rfl⟩ : ∃ k : Nat, n = (k : Int) + 1 := ⟨(n - 1).toNat, by omega⟩
      have hk : k < vs.length := by omega
      obtain ⟨b, rfl, hr⟩ := hx k hk
      obtain ⟨X, hX⟩ : ∃ X : List Value, X = bv vs[k] := ⟨_, rfl⟩
      have HXl : Hid (X.length = 128) := by unfold Hid; rw [hX, bv_length]; exact hv _ (List.getElem_mem hk)
      have HR : Hid (W.rangeAt b (k * 128) X) := by unfold Hid; rw [hX]; exact rangeAt_below hr HWb.out
      have HE : Hid (Tryd.prog.built 89 [(0, .agg X.toArray)] = some Y.toArray) := by
        unfold Hid
        rw [built_textOnly X HXl.out, HY.out, afterS, if_neg h0, if_pos ⟨h1, h2⟩, hX]
        simp [Sec.cells, secV, hk]
      have hk0 : (0 : Int) ≤ (k : Int) := by omega
      have hk2 : (k : Int) ≤ 140737488355328 := by omega
      have hk3 : wrap64 (k : Int) = (k : Int) := by unfold wrap64; omega
      have hk1 : (k : Int) < (vs.length : Int) := by omega
      clear hX hr
      go_enter Tryd.func62, Tryd.ntmps62
      go_wp2_with (first
        | (refine wpList_load_mid rfl 87 _ rfl b (k * 128) (by rfl) X _ (by rw [← HW.out]; exact HR.out) Tryd.underlying87 rfl (by rw [HIt.out, HXl.out]) ?_; rw [← HW.out])
        | (refine wpList_built rfl 89 _ rfl Y.toArray (by simp only [List.map_toArray, List.map_cons, List.map_nil]; exact HE.out) ?_)
        | (refine wpList_store_mid rfl 89 _ _ rfl (w.heap.size + 1) 0 Y.toArray rfl rfl HTh.out (by rw [HIs.out, HYs.out]) (all_oneCell_toArray HY1.out) ?_))
      exact bodyPost_ret (v := .agg Y.toArray) (HFin.out _ _ Tryd.results62 rfl) rfl ⟨rfl, HFb.out⟩
    · have HE : Hid (Tryd.prog.built 89 [(1, .bool true)] = some Y.toArray) := by
        unfold Hid
        rw [built_torn, HY.out, afterS, if_neg h0, if_neg h1]
        rfl
      by_cases h3 : 0 < n
      · have h4 : ¬ n ≤ (vs.length : Int) := fun h => h1 ⟨h3, h⟩
        clear h1
        go_enter Tryd.func62, Tryd.ntmps62
        go_wp2_with (first
          | (refine wpList_built rfl 89 _ rfl Y.toArray (by simp only [List.map_toArray, List.map_cons, List.map_nil]; exact HE.out) ?_; rw [← HW.out])
          | (refine wpList_store_mid rfl 89 _ _ rfl (w.heap.size + 1) 0 Y.toArray rfl rfl HTh.out (by rw [HIs.out, HYs.out]) (all_oneCell_toArray HY1.out) ?_))
        exact bodyPost_ret (v := .agg Y.toArray) (HFin.out _ _ Tryd.results62 rfl) rfl ⟨rfl, HFb.out⟩
      · clear h1
        go_enter Tryd.func62, Tryd.ntmps62
        go_wp2_with (first
          | (refine wpList_built rfl 89 _ rfl Y.toArray (by simp only [List.map_toArray, List.map_cons, List.map_nil]; exact HE.out) ?_; rw [← HW.out])
          | (refine wpList_store_mid rfl 89 _ _ rfl (w.heap.size + 1) 0 Y.toArray rfl rfl HTh.out (by rw [HIs.out, HYs.out]) (all_oneCell_toArray HY1.out) ?_))
        exact bodyPost_ret (v := .agg Y.toArray) (HFin.out _ _ Tryd.results62 rfl) rfl ⟨rfl, HFb.out⟩
end Go.Proofs.YtibepnilhmbpeaaDoor
namespace Go.Proofs.YtibepnilhmbpeaaDoor
set_option linter.unusedVariables false
set_option linter.unusedSimpArgs false
open Go.RowKit
def inB (i : Int) (n : Nat) : Bool := decide (0 ≤ i ∧ i < (n : Int))
set_option maxRecDepth 20000 in
set_option maxHeartbeats 400000 in
theorem has_t (p : Nat) (a : Option Addr) (n c : Nat) (i : Int) (w : World) (h0 : w.cell? ⟨p, 0, none⟩ = some (.slice a n c)) :
    Calls Tryd.prog 71 #[.pointer (some ⟨p, 0, none⟩), .int .i64 i] w fun e w' => e = .returned (.bool (inB i n)) ∧ w' = w := by
  by_cases hn : 0 < n
  · by_cases h1 : 0 ≤ i
    · by_cases h2 : i < (n : Int)
      · have e : inB i n = true := by simp [inB, h1, h2]
        rw [e]
        clear e
        go_enter Tryd.func71, Tryd.ntmps71
        go_wp2_with (go_at_call 42; refine (made_t p a n c _ h0).mono ?_; rintro e w1 ⟨rfl, hq⟩; have hq := hq.symm; subst hq; rw [decide_eq_true hn])
        go_ret
        exact ⟨rfl, rfl⟩
      · have e : inB i n = false := by simp [inB, h2]
        have hd : decide (i < (n : Int)) = false := by simpa using h2
        rw [e]
        clear e
        go_enter Tryd.func71, Tryd.ntmps71
        go_wp2_with (go_at_call 42; refine (made_t p a n c _ h0).mono ?_; rintro e w1 ⟨rfl, hq⟩; have hq := hq.symm; subst hq; rw [decide_eq_true hn])
        go_ret
        exact ⟨rfl, rfl⟩
    · have e : inB i n = false := by simp [inB, h1]
      have hd : decide (0 ≤ i) = false := by simpa using h1
      rw [e]
      clear e
      go_enter Tryd.func71, Tryd.ntmps71
      go_wp2_with (go_at_call 42; refine (made_t p a n c _ h0).mono ?_; rintro e w1 ⟨rfl, hq⟩; have hq := hq.symm; subst hq; rw [decide_eq_true hn])
      go_ret
      exact ⟨rfl, rfl⟩
  · have e : inB i n = false := by
      simp only [inB, decide_eq_false_iff_not]
      omega
    rw [e]
    clear e
    go_enter Tryd.func71, Tryd.ntmps71
    go_wp2_with (go_at_call 42; refine (made_t p a n c _ h0).mono ?_; rintro e w1 ⟨rfl, hq⟩; have hq := hq.symm; subst hq; rw [decide_eq_false hn])
    go_ret
    exact ⟨rfl, rfl⟩
/-- the sector as it is at present -/
def presS (s : Sec) (vs : List (List UInt8)) : Sec := afterS s vs.length vs
/-- what the cache has of sector i -/
structure Looks (w : World) (m : Nat) (i : Nat) (a : Option Addr) (c : Nat) (vs : List (List UInt8)) : Prop where
  run : ∀ u, Below w.heap.size w u → (Instr.lookup 68 (.map (some m)) (.int .i64 (i : Int)) false).run Tryd.prog u = .ok (.slice a vs.length c) u
  len : ∀ t ∈ vs, t.length = 128
  few : vs.length ≤ 140737488355328
  lie : Texts w a vs
set_option maxRecDepth 20000 in
set_option maxHeartbeats 800000 in
theorem present_t (p g m i : Nat) (S : List Sec) (a : Option Addr) (c : Nat) (vs : List (List UInt8)) (w : World) (h : SecAt w p g S) (hi : i < S.length) (hm : w.cell? ⟨p, 1, none⟩ = some (.map (some m))) (hL : Looks w m i a c vs) :
    Calls Tryd.prog 44 #[.pointer (some ⟨p, 0, none⟩), .int .i64 (i : Int)] w fun e w' => e = .returned (.agg (presS S[i] vs).cells.toArray) ∧ Below w.heap.size w w' := by
  obtain ⟨hok, h1, h2, ⟨cap, hp, hc1, hc2⟩, hr⟩ := h
  have hz := (zero_of_info info_sect).1
  obtain ⟨Z, hZ⟩ : ∃ Z : Array Value, Z = z129 := ⟨_, rfl⟩
  rw [← hZ] at hz
  have HZs : Hid (Z.size = 129) := by unfold Hid; rw [hZ]; exact z129_size
  have HIs : Hid ((Tryd.prog.info? 89).map (·.size) = some 129) := (zero_of_info info_sect).2
  obtain ⟨W, hW⟩ : ∃ W : World, W = w.alloc (.cells Z 89) := ⟨_, rfl⟩
  have hbW : Below w.heap.size w W := by rw [hW]; exact al (Below.refl _ _) _
  have HR0 : Hid (W.heap[w.heap.size]? = some (.cells Z 89 (0, 0))) := by unfold Hid; rw [hW]; exact heap_alloc_new w _
  have hp' : W.cell? ⟨p, 0, none⟩ = some (.slice (some ⟨g, 0, none⟩) S.length cap) := (hbW.cell (World.block_lt_of_cell? w _ hp)).trans hp
  have hm' : W.cell? ⟨p, 1, none⟩ = some (.map (some m)) := (hbW.cell (World.block_lt_of_cell? w _ hm)).trans hm
  have hlk := hL.run W hbW
  obtain ⟨C, hC⟩ : ∃ C : List Value, C = S[i].cells := ⟨_, rfl⟩
  have HCl : Hid (C.length = 129) := by unfold Hid; rw [hC]; exact Sec.cells_len (hok _ (List.getElem_mem hi))
  have HRC : Hid (W.rangeAt g (i * 129) C) := by unfold Hid; rw [hC]; exact rangeAt_below (hr i hi) hbW
  obtain ⟨Y, hY⟩ : ∃ Y : List Value, Y = (presS S[i] vs).cells := ⟨_, rfl⟩
  have HYl : Hid (Y.length = 129) := by unfold Hid; rw [hY]; exact Sec.cells_len (afterS_ok (hok _ (List.getElem_mem hi)) _ hL.len)
  have HYs : Hid (Y.toArray.size = 129) := by unfold Hid; rw [List.size_toArray]; exact HYl.out
  have HY1 : Hid (∀ v ∈ Y, v.oneCell' = true) := by unfold Hid; rw [hY]; exact secV_one _ _
  have HAF : Hid (Calls Tryd.prog 62 #[.agg C.toArray, .int .i64 (vs.length : Int), .slice a vs.length c] W fun e w' => e = .returned (.agg Y.toArray) ∧ Below W.heap.size W w') := by
    unfold Hid
    rw [hC, hY]
    exact after_t S[i] vs.length a c vs W (hok _ (List.getElem_mem hi)) hL.len hL.few (hL.lie.below hbW)
  rw [← hY]
  have hi0 : (0 : Int) ≤ (i : Int) := by omega
  have hi1 : (i : Int) < (S.length : Int) := by omega
  have HW : Hid (W = _) := hW
  have HbW : Hid _ := hbW
  have hszW : W.heap.size = w.heap.size + 1 := by rw [hW]; simp
  have HszW : Hid _ := hszW
  have hpl : p < w.heap.size := World.block_lt_of_cell? w _ hp
  rw [hW] at hlk
  clear hZ hC hY hL hr hszW hW hp' hm' hbW
  go_enter Tryd.func44, Tryd.ntmps44
  go_wp2_with (first
    | (refine wpList_load_mid rfl 89 _ rfl g (i * 129) (by rfl) C _ (by rw [← HW.out]; exact HRC.out) Tryd.underlying89 rfl (by rw [HIs.out, HCl.out]) ?_; rw [← HW.out])
    | (go_at_call 62; refine HAF.out.mono ?_; rintro e w1 ⟨rfl, hb1⟩; have HR1 : Hid (w1.heap[w.heap.size]? = some (.cells Z 89 (0, 0))) := (hb1.block _ (by rw [HszW.out]; exact Nat.lt_succ_self _)).trans HR0.out)
    | (refine wpList_store_mid rfl 89 _ _ rfl w.heap.size 0 Y.toArray rfl rfl (there_row ⟨HR1.out, by rw [HYs.out, HZs.out]; exact Nat.le_refl _⟩) (by rw [HIs.out, HYs.out]) (all_oneCell_toArray HY1.out) ?_))
  refine bodyPost_ret (v := .agg Y.toArray) (results_cell_row Tryd.results44 _ _ w.heap.size 89 Y.toArray (0, 0) _ rfl ?_ Tryd.underlying89 rfl (by rw [HIs.out, HYs.out])) rfl ⟨rfl, ?_⟩
  · have h9 := heap_setCells w.heap.size 89 Y 0 Z.toList w1 (by rw [Array.toArray_toList]; exact HR1.out) (by rw [HYl.out, Array.length_toList, HZs.out]; decide)
    rw [splice_all _ _ (by rw [HYl.out, Array.length_toList, HZs.out])] at h9
    exact h9
  · exact below_setCells (HbW.out.trans (hb1.mono (by rw [HszW.out]; exact Nat.le_succ _))) (Nat.le_refl _) _ _
end Go.Proofs.YtibepnilhmbpeaaDoor
namespace Go.Proofs.YtibepnilhmbpeaaDoor
set_option linter.unusedVariables false
set_option linter.unusedSimpArgs false
open Go.RowKit
/-- what Read answers of a sector -/
def readE (s : Sec) : Int := if s.torn then 40 else 0
def readB (s : Sec) : List UInt8 := if s.torn then [] else s.text
set_option maxRecDepth 20000 in
set_option maxHeartbeats 800000 in
theorem read_t (p g m i : Nat) (S : List Sec) (a : Option Addr) (c : Nat) (vs : List (List UInt8)) (w : World) (h : SecAt w p g S) (hi : i < S.length) (hm : w.cell? ⟨p, 1, none⟩ = some (.map (some m))) (h2 : w.cell? ⟨p, 2, none⟩ = some (.bool false)) (hL : Looks w m i a c vs) :
    Calls Tryd.prog 58 #[.pointer (some ⟨p, 0, none⟩), .int .i64 (i : Int)] w fun e w' => ∃ v, e = .returned (.tuple #[v, .int .i64 (readE (presS S[i] vs))]) ∧ Own w' w.heap.size v (readB (presS S[i] vs)) ∧ Below w.heap.size w w' := by
  have hso := afterS_ok (h.ok _ (List.getElem_mem hi)) (vs.length : Int) hL.len
  have HPR : Hid (Calls Tryd.prog 44 #[.pointer (some ⟨p, 0, none⟩), .int .i64 (i : Int)] w fun e w' => e = .returned (.agg (presS S[i] vs).cells.toArray) ∧ Below w.heap.size w w') := present_t p g m i S a c vs w h hi hm hL
  obtain ⟨cap, hp, -, -⟩ := h.head
  obtain ⟨s, hs⟩ : ∃ s : Sec, s = presS S[i] vs := ⟨_, rfl⟩
  rw [← hs] at HPR ⊢
  have hsok : s.ok := by rw [hs]; exact hso
  have hz := (zero_of_info info_sect).1
  obtain ⟨Z, hZ⟩ : ∃ Z : Array Value, Z = z129 := ⟨_, rfl⟩
  rw [← hZ] at hz
  have HZs : Hid (Z.size = 129) := by unfold Hid; rw [hZ]; exact z129_size
  have HIs : Hid ((Tryd.prog.info? 89).map (·.size) = some 129) := (zero_of_info info_sect).2
  obtain ⟨Y, hY⟩ : ∃ Y : List Value, Y = s.cells := ⟨_, rfl⟩
  have HY : Hid (Y = s.cells) := hY
  have HYl : Hid (Y.length = 129) := by unfold Hid; rw [hY]; exact Sec.cells_len hsok
  have HYs : Hid (Y.toArray.size = 129) := by unfold Hid; rw [List.size_toArray]; exact HYl.out
  have HY1 : Hid (∀ v ∈ Y, v.oneCell' = true) := by unfold Hid; rw [hY]; exact secV_one _ _
  rw [← hY] at HPR
  have hin : inB (i : Int) S.length = true := by simp [inB]; omega
  obtain ⟨xs, t⟩ := s
  have hxl : xs.length = 128 := hsok
  clear hs hso hsok hZ hY hL h
  cases t
  all_goals
    go_enter Tryd.func58, Tryd.ntmps58
    go_wp2_with (first
      | (go_at_call 71; refine (has_t p _ S.length cap i _ hp).mono ?_; rintro e w1 ⟨rfl, hq⟩; have hq := hq.symm; subst hq; rw [hin])
      | (go_at_call 44; refine HPR.out.mono ?_; rintro e w1 ⟨rfl, hb1⟩)
      | (refine wpList_store_mid rfl 89 _ _ rfl w1.heap.size 0 Y.toArray rfl rfl (by rw [HYs.out]; exact there_new _ Z _ 129 (by rw [HZs.out]; exact Nat.le_refl _)) (by rw [HIs.out, HYs.out]) (all_oneCell_toArray HY1.out) ?_
         obtain ⟨U, hU⟩ : ∃ U : World, U = (w1.alloc (.cells Z 89)).setCells w1.heap.size 0 Y := ⟨_, rfl⟩
         have hUG : U.heap[w1.heap.size]? = some (.cells Y.toArray 89 (0, 0)) := (by
           rw [hU, heap_setCells _ _ _ _ Z.toList _ (by rw [Array.toArray_toList]; exact heap_alloc_new w1 _) (by rw [HYl.out, Array.length_toList, HZs.out]; decide), splice_all _ _ (by rw [HYl.out, Array.length_toList, HZs.out])])
         have hUb : Below w.heap.size w U := (by rw [hU]; exact below_setCells (al hb1 _) hb1.size _ _)
         have hc8 : U.cell? ⟨w1.heap.size, 128, none⟩ = some (.bool _) := (by
           rw [cell_of_row _ _ 128 _ _ _ hUG, HY.out]
           simp [Sec.cells, secV, bv_length, hxl]; rfl)
         have hRd : Rd U (some ⟨w1.heap.size, 0, none⟩) xs := (by
           intro _
           refine ⟨_, _, rfl, fun j hj => ?_⟩
           rw [Nat.zero_add, cell_of_row _ _ j _ _ _ hUG, HY.out]
           simp only [Sec.cells, secV, List.getElem?_toArray]
           rw [List.getElem?_append_left (by rw [bv_length]; exact hj), bv_get xs j hj])
         show wpList _ _ _ _ _ ((w1.alloc (.cells Z 89)).setCells w1.heap.size 0 Y)
         rw [← hU]
         clear hU)
      | (go_at_call 66; refine (clone_n _ 128 128 xs hxl.symm _ hRd (fun h => by cases h) (by omega)).mono ?_; rintro e w3 ⟨v, rfl, hown, hb3⟩))
    go_ret2
    first
    | exact ⟨v, rfl, hown.base hUb.size, hUb.trans (hb3.mono hUb.size)⟩
    | exact ⟨_, rfl, World.ownsRow_nil _ _ _ _, hUb⟩
end Go.Proofs.YtibepnilhmbpeaaDoor
namespace Go.Proofs.YtibepnilhmbpeaaDoor
set_option linter.unusedVariables false
set_option linter.unusedSimpArgs false
open Go.RowKit
/-- may the operation be done? the answer, and power and fuse behind it -/
def begE (off : Bool) (fuse : Int) : Int := if fuse = 0 then 5 else if off then 5 else 0
def begO (off : Bool) (fuse : Int) : Bool := if fuse = 0 then true else off
def begF (off : Bool) (fuse : Int) : Int := if fuse = 0 then -1 else if off then fuse else if 0 < fuse then fuse - 1 else fuse
theorem heap_set4 {w : World} {p : Nat} {a b c d : Value} {t : TypeId} (h : w.heap[p]? = some (.cells #[a, b, c, d] t (0, 0))) (v : Value) : (w.setCell ⟨p, 2, none⟩ v).heap[p]? = some (.cells #[a, b, v, d] t (0, 0)) ∧ (w.setCell ⟨p, 3, none⟩ v).heap[p]? = some (.cells #[a, b, c, v] t (0, 0)) :=
  ⟨by rw [heap_setCell_same w p 2 _ t v h]; rfl, by rw [heap_setCell_same w p 3 _ t v h]; rfl⟩
set_option maxRecDepth 20000 in
set_option maxHeartbeats 400000 in
theorem begin_t (p : Nat) (a b : Value) (off : Bool) (fuse : Int) (w : World) (h : w.heap[p]? = some (.cells #[a, b, .bool off, .int .i64 fuse] 70 (0, 0))) (hf : fuse ≤ 9223372036854775807) :
    Calls Tryd.prog 43 #[.pointer (some ⟨p, 0, none⟩)] w fun e w' => e = .returned (.int .i64 (begE off fuse)) ∧ w'.heap[p]? = some (.cells #[a, b, .bool (begO off fuse), .int .i64 (begF off fuse)] 70 (0, 0)) ∧ w.grownBy w' (some p) := by
  have c2 : w.cell? ⟨p, 2, none⟩ = some (.bool off) := by rw [cell_of_row _ _ 2 _ _ _ h]; rfl
  have c3 : w.cell? ⟨p, 3, none⟩ = some (.int .i64 fuse) := by rw [cell_of_row _ _ 3 _ _ _ h]; rfl
  have f2 := frozen_of_row w p 2 _ _ h
  have f3 := frozen_of_row w p 3 _ _ h
  have HH : Hid _ := h
  clear h
  by_cases h0 : fuse = 0
  · subst h0
    go_enter Tryd.func43, Tryd.ntmps43
    go_wp2
    go_ret
    refine ⟨rfl, ?_, (gset1 w p 2 _).trans' (gset1 _ p 3 _)⟩
    have h1 := (heap_set4 HH.out (.bool true)).1
    exact (heap_set4 h1 (.int .i64 (-1))).2
  · have hb : (fuse == 0) = false := by simpa using h0
    cases off
    · by_cases h1 : 0 < fuse
      · have e1 : begE false fuse = 0 := by simp [begE, h0]
        have e2 : begO false fuse = false := by simp [begO, h0]
        have e3 : begF false fuse = fuse - 1 := by simp [begF, h0, h1]
        rw [e1, e2, e3]
        clear e1 e2 e3
        go_enter Tryd.func43, Tryd.ntmps43
        go_wp2
        go_ret
        exact ⟨rfl, (heap_set4 HH.out _).2, gset1 w p 3 _⟩
      · have e1 : begE false fuse = 0 := by simp [begE, h0]
        have e2 : begO false fuse = false := by simp [begO, h0]
        have e3 : begF false fuse = fuse := by simp [begF, h0, h1]
        rw [e1, e2, e3]
        clear e1 e2 e3
        go_enter Tryd.func43, Tryd.ntmps43
        go_wp2
        go_ret
        exact ⟨rfl, HH.out, World.grownBy.refl _ _⟩
    · have e1 : begE true fuse = 5 := by simp [begE]
      have e2 : begO true fuse = true := by simp [begO]
      have e3 : begF true fuse = fuse := by simp [begF, h0]
      rw [e1, e2, e3]
      clear e1 e2 e3
      go_enter Tryd.func43, Tryd.ntmps43
      go_wp2
      go_ret
      exact ⟨rfl, HH.out, World.grownBy.refl _ _⟩
end Go.Proofs.YtibepnilhmbpeaaDoor
