import Derived.Test.YtgdkiejlggiakabDLoad
namespace Go.Proofs.Ytgdkiejlggiakab
set_option linter.unusedVariables false
set_option linter.unusedSimpArgs false
open Go.RowKit
theorem wpList_built {P : Program} {ops : Array Oper} {rest : List Oper} {o : Oper} {a : Act} {w : World} {Q : Exit → Act → World → Prop} (hg : o.guard = none) (t : TypeId) (parts : Array (Nat × Operand)) (ho : o.op = .build t parts) (cells : Array Value)
    (hb : P.built t (parts.map fun (i, x) => (i, a.eval x)).toList = some cells) (h : wpList P ops Q rest (a.put o.dst (.agg cells)) w) : wpList P ops Q (o :: rest) a w :=
  wpList_build hg t parts ho (by rw [hb]; rfl) (by rw [hb]; exact h)
set_option maxRecDepth 20000 in
theorem built_textOnly (X : List Value) (h : X.length = 128) : Try.prog.built 71 [(0, .agg X.toArray)] = some (X ++ [Value.bool false]).toArray := by
  rw [built_at]
  simp only [Instr.fill]
  simp [Instr.fill, Value.cells, h]
  refine ⟨by rw [z129_size]; decide, ?_⟩
  rw [fold_set X 0 z129 (by rw [z129_size, h]; decide)]
  congr 1
  unfold splice
  rw [h]
  simp [z129]
theorem built_torn : Try.prog.built 71 [(1, Value.bool true)] = some (secV (List.replicate 128 0) true).toArray := by kernel_rfl
/-- the texts vs lie one behind the other in block b -/
def Texts (w : World) (a : Option Addr) (vs : List (List UInt8)) : Prop := ∀ k (h : k < vs.length), ∃ b, a = some ⟨b, 0, none⟩ ∧ w.rangeAt b (k * 128) (bv vs[k])
theorem Texts.below {w w' : World} {a : Option Addr} {vs : List (List UInt8)} (h : Texts w a vs) (hb : Below w.heap.size w w') : Texts w' a vs := fun k hk => by
  obtain ⟨b, e, hr⟩ := h k hk
  exact ⟨b, e, rangeAt_below hr hb⟩
theorem Texts.nil (w : World) (a : Option Addr) : Texts w a [] := fun k hk => absurd hk (Nat.not_lt_zero k)
def Sec.bad : Sec := ⟨List.replicate 128 0, true⟩
/-- the sector, when of its versions that of this number has reached the disk -/
def afterS (s : Sec) (n : Int) (vs : List (List UInt8)) : Sec :=
  if n = 0 then s else if 0 < n ∧ n ≤ vs.length then ⟨vs.getD (n.toNat - 1) [], false⟩ else Sec.bad
theorem afterS_ok {s : Sec} (h : s.ok) (n : Int) {vs : List (List UInt8)} (hv : ∀ t ∈ vs, t.length = 128) : (afterS s n vs).ok := by
  unfold afterS
  split
  · exact h
  · split
    · rename_i h1 h2
      refine hv _ ?_
      rw [List.getD_eq_getElem?_getD, List.getElem?_eq_getElem (by omega), Option.getD_some]
      exact List.getElem_mem _
    · simp [Sec.bad, Sec.ok]
set_option maxRecDepth 20000 in
set_option maxHeartbeats 800000 in
theorem after_t (s : Sec) (n : Int) (a : Option Addr) (c : Nat) (vs : List (List UInt8)) (w : World) (hs : s.ok) (hv : ∀ t ∈ vs, t.length = 128) (hvn : vs.length ≤ 140737488355328) (hx : Texts w a vs) :
    Calls Try.prog 36 #[.agg s.cells.toArray, .int .i64 n, .slice a vs.length c] w fun e w' => e = .returned (.agg (afterS s n vs).cells.toArray) ∧ Below w.heap.size w w' := by
  have hz := (zero_of_info info_sect).1
  obtain ⟨Z, hZ⟩ : ∃ Z : Array Value, Z = z129 := ⟨_, rfl⟩
  rw [← hZ] at hz
  have HZs : Hid (Z.size = 129) := by unfold Hid; rw [hZ]; exact z129_size
  have HIs : Hid ((Try.prog.info? 71).map (·.size) = some 129) := (zero_of_info info_sect).2
  have HIt : Hid ((Try.prog.info? 67).map (·.size) = some 128) := (zero_of_info info_text).2
  obtain ⟨C, hC⟩ : ∃ C : List Value, C = s.cells := ⟨_, rfl⟩
  have HC : Hid (C = s.cells) := hC
  have HCl : Hid (C.length = 129) := by unfold Hid; rw [hC]; exact Sec.cells_len hs
  rw [← hC]
  obtain ⟨Y, hY⟩ : ∃ Y : List Value, Y = (afterS s n vs).cells := ⟨_, rfl⟩
  have HY : Hid (Y = (afterS s n vs).cells) := hY
  have HYl : Hid (Y.length = 129) := by unfold Hid; rw [hY]; exact Sec.cells_len (afterS_ok hs n hv)
  have HYs : Hid (Y.toArray.size = 129) := by unfold Hid; rw [List.size_toArray]; exact HYl.out
  have HY1 : Hid (∀ v ∈ Y, v.oneCell' = true) := by unfold Hid; rw [hY]; exact secV_one _ _
  rw [← hY]
  obtain ⟨W, hW⟩ : ∃ W : World, W = (w.alloc (.cells C.toArray 71)).alloc (.cells Z 71) := ⟨_, rfl⟩
  have HW : Hid (W = _) := hW
  have HWb : Hid (Below w.heap.size w W) := by unfold Hid; rw [hW]; exact al (al (Below.refl _ _) _) _
  have HW0 : Hid (W.heap[w.heap.size]? = some (.cells C.toArray 71 (0, 0))) := by
    unfold Hid; rw [hW, heap_alloc_old (h := by simp)]; exact heap_alloc_new w _
  have HW1 : Hid (W.heap[w.heap.size + 1]? = some (.cells Z 71 (0, 0))) := by
    unfold Hid; rw [hW]; simpa using heap_alloc_new (w.alloc (.cells C.toArray 71)) (.cells Z 71)
  have HFin : Hid (∀ fn tmps, fn.results = #[.cell 6 71] → (tmps : Array Value).getD 6 undef = .pointer (some ⟨w.heap.size + 1, 0, none⟩) → (results fn tmps).run Try.prog (W.setCells (w.heap.size + 1) 0 Y) = .ok (.agg Y.toArray) (W.setCells (w.heap.size + 1) 0 Y)) := by
    intro fn tmps h1 h2
    refine results_cell_row h1 tmps _ (w.heap.size + 1) 71 Y.toArray (0, 0) _ h2 ?_ Try.underlying71 rfl (by rw [HIs.out, HYs.out])
    rw [heap_setCells _ _ _ _ Z.toList _ (by rw [Array.toArray_toList]; exact HW1.out) (by rw [HYl.out, Array.length_toList, HZs.out]; decide), splice_all _ _ (by rw [HYl.out, Array.length_toList, HZs.out])]
  have HFb : Hid (Below w.heap.size w (W.setCells (w.heap.size + 1) 0 Y)) := below_setCells HWb.out (Nat.le_succ _) _ _
  have HTh : Hid (W.there (w.heap.size + 1) 0 Y.toArray.size) := there_row ⟨HW1.out, by rw [HYs.out, HZs.out]; exact Nat.le_refl _⟩
  clear hZ hC hY hW
  by_cases h0 : n = 0
  · have HE : Hid (Y = C) := by unfold Hid; rw [HY.out, HC.out, afterS, if_pos h0]
    subst h0
    go_enter Try.func36, Try.ntmps36
    go_wp2_with (first
      | (refine wpList_load_row rfl 71 _ rfl w.heap.size rfl 71 C.toArray (0, 0) _ (by rw [← HW.out]; exact HW0.out) Try.underlying71 rfl (by rw [HIs.out, List.size_toArray, HCl.out]) ?_; rw [← HW.out, ← HE.out])
      | (refine wpList_store_mid rfl 71 _ _ rfl (w.heap.size + 1) 0 Y.toArray rfl rfl HTh.out (by rw [HIs.out, HYs.out]) (all_oneCell_toArray HY1.out) ?_))
    exact bodyPost_ret (v := .agg Y.toArray) (HFin.out _ _ Try.results36 rfl) rfl ⟨rfl, HFb.out⟩
  · by_cases h1 : 0 < n ∧ n ≤ vs.length
    · obtain ⟨h1, h2⟩ := h1
      obtain ⟨k, rfl⟩ : ∃ k : Nat, n = (k : Int) + 1 := ⟨(n - 1).toNat, by omega⟩
      have hk : k < vs.length := by omega
      obtain ⟨b, rfl, hr⟩ := hx k hk
      obtain ⟨X, hX⟩ : ∃ X : List Value, X = bv vs[k] := ⟨_, rfl⟩
      have HXl : Hid (X.length = 128) := by unfold Hid; rw [hX, bv_length]; exact hv _ (List.getElem_mem hk)
      have HR : Hid (W.rangeAt b (k * 128) X) := by unfold Hid; rw [hX]; exact rangeAt_below hr HWb.out
      have HE : Hid (Try.prog.built 71 [(0, .agg X.toArray)] = some Y.toArray) := by
        unfold Hid
        rw [built_textOnly X HXl.out, HY.out, afterS, if_neg h0, if_pos ⟨h1, h2⟩, hX]
        simp [Sec.cells, secV, hk]
      have hk0 : (0 : Int) ≤ (k : Int) := by omega
      have hk2 : (k : Int) ≤ 140737488355328 := by omega
      have hk3 : wrap64 (k : Int) = (k : Int) := by unfold wrap64; omega
      have hk1 : (k : Int) < (vs.length : Int) := by omega
      clear hX hr
      go_enter Try.func36, Try.ntmps36
      go_wp2_with (first
        | (refine wpList_load_mid rfl 67 _ rfl b (k * 128) (by rfl) X _ (by rw [← HW.out]; exact HR.out) Try.underlying67 rfl (by rw [HIt.out, HXl.out]) ?_; rw [← HW.out])
        | (refine wpList_built rfl 71 _ rfl Y.toArray (by simp only [List.map_toArray, List.map_cons, List.map_nil]; exact HE.out) ?_)
        | (refine wpList_store_mid rfl 71 _ _ rfl (w.heap.size + 1) 0 Y.toArray rfl rfl HTh.out (by rw [HIs.out, HYs.out]) (all_oneCell_toArray HY1.out) ?_))
      exact bodyPost_ret (v := .agg Y.toArray) (HFin.out _ _ Try.results36 rfl) rfl ⟨rfl, HFb.out⟩
    · have HE : Hid (Try.prog.built 71 [(1, .bool true)] = some Y.toArray) := by
        unfold Hid
        rw [built_torn, HY.out, afterS, if_neg h0, if_neg h1]
        rfl
      by_cases h3 : 0 < n
      · have h4 : ¬ n ≤ (vs.length : Int) := fun h => h1 ⟨h3, h⟩
        clear h1
        go_enter Try.func36, Try.ntmps36
        go_wp2_with (first
          | (refine wpList_built rfl 71 _ rfl Y.toArray (by simp only [List.map_toArray, List.map_cons, List.map_nil]; exact HE.out) ?_; rw [← HW.out])
          | (refine wpList_store_mid rfl 71 _ _ rfl (w.heap.size + 1) 0 Y.toArray rfl rfl HTh.out (by rw [HIs.out, HYs.out]) (all_oneCell_toArray HY1.out) ?_))
        exact bodyPost_ret (v := .agg Y.toArray) (HFin.out _ _ Try.results36 rfl) rfl ⟨rfl, HFb.out⟩
      · clear h1
        go_enter Try.func36, Try.ntmps36
        go_wp2_with (first
          | (refine wpList_built rfl 71 _ rfl Y.toArray (by simp only [List.map_toArray, List.map_cons, List.map_nil]; exact HE.out) ?_; rw [← HW.out])
          | (refine wpList_store_mid rfl 71 _ _ rfl (w.heap.size + 1) 0 Y.toArray rfl rfl HTh.out (by rw [HIs.out, HYs.out]) (all_oneCell_toArray HY1.out) ?_))
        exact bodyPost_ret (v := .agg Y.toArray) (HFin.out _ _ Try.results36 rfl) rfl ⟨rfl, HFb.out⟩
end Go.Proofs.Ytgdkiejlggiakab
