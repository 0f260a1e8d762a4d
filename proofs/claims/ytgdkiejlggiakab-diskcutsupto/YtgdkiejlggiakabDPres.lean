import Derived.Test.YtgdkiejlggiakabDAfter
namespace Go.Proofs.Ytgdkiejlggiakab
set_option linter.unusedVariables false
set_option linter.unusedSimpArgs false
open Go.RowKit
set_option maxRecDepth 20000 in
theorem has_nil (i : Int) (w : World) : Calls Try.prog 28 #[.pointer none, .int .i64 i] w fun e w' => e = .returned (.bool false) ∧ w' = w := by
  go_enter Try.func28, Try.ntmps28
  go_wp2_with (go_at_call 31; refine (made_nil _).mono ?_; rintro e w1 ⟨rfl, hq⟩; have hq := hq.symm; subst hq)
  go_ret
  exact ⟨rfl, rfl⟩
def inB (i : Int) (n : Nat) : Bool := decide (0 ≤ i ∧ i < (n : Int))
set_option maxRecDepth 20000 in
set_option maxHeartbeats 400000 in
theorem has_t (p : Nat) (a : Option Addr) (n c : Nat) (i : Int) (w : World) (h0 : w.cell? ⟨p, 0, none⟩ = some (.slice a n c)) :
    Calls Try.prog 28 #[.pointer (some ⟨p, 0, none⟩), .int .i64 i] w fun e w' => e = .returned (.bool (inB i n)) ∧ w' = w := by
  by_cases hn : 0 < n
  · by_cases h1 : 0 ≤ i
    · by_cases h2 : i < (n : Int)
      · have e : inB i n = true := by simp [inB, h1, h2]
        rw [e]
        clear e
        go_enter Try.func28, Try.ntmps28
        go_wp2_with (go_at_call 31; refine (made_t p a n c _ h0).mono ?_; rintro e w1 ⟨rfl, hq⟩; have hq := hq.symm; subst hq; rw [decide_eq_true hn])
        go_ret
        exact ⟨rfl, rfl⟩
      · have e : inB i n = false := by simp [inB, h2]
        have hd : decide (i < (n : Int)) = false := by simpa using h2
        rw [e]
        clear e
        go_enter Try.func28, Try.ntmps28
        go_wp2_with (go_at_call 31; refine (made_t p a n c _ h0).mono ?_; rintro e w1 ⟨rfl, hq⟩; have hq := hq.symm; subst hq; rw [decide_eq_true hn])
        go_ret
        exact ⟨rfl, rfl⟩
    · have e : inB i n = false := by simp [inB, h1]
      have hd : decide (0 ≤ i) = false := by simpa using h1
      rw [e]
      clear e
      go_enter Try.func28, Try.ntmps28
      go_wp2_with (go_at_call 31; refine (made_t p a n c _ h0).mono ?_; rintro e w1 ⟨rfl, hq⟩; have hq := hq.symm; subst hq; rw [decide_eq_true hn])
      go_ret
      exact ⟨rfl, rfl⟩
  · have e : inB i n = false := by
      simp only [inB, decide_eq_false_iff_not]
      omega
    rw [e]
    clear e
    go_enter Try.func28, Try.ntmps28
    go_wp2_with (go_at_call 31; refine (made_t p a n c _ h0).mono ?_; rintro e w1 ⟨rfl, hq⟩; have hq := hq.symm; subst hq; rw [decide_eq_false hn])
    go_ret
    exact ⟨rfl, rfl⟩
/-- the sector as it is at present -/
def presS (s : Sec) (vs : List (List UInt8)) : Sec := afterS s vs.length vs
/-- what the cache has of sector i -/
structure Looks (w : World) (m : Nat) (i : Nat) (a : Option Addr) (c : Nat) (vs : List (List UInt8)) : Prop where
  run : ∀ u, Below w.heap.size w u → (Instr.lookup 32 (.map (some m)) (.int .i64 (i : Int)) false).run Try.prog u = .ok (.slice a vs.length c) u
  len : ∀ t ∈ vs, t.length = 128
  few : vs.length ≤ 140737488355328
  lie : Texts w a vs
set_option maxRecDepth 20000 in
set_option maxHeartbeats 800000 in
theorem present_t (p g m i : Nat) (S : List Sec) (a : Option Addr) (c : Nat) (vs : List (List UInt8)) (w : World) (h : SecAt w p g S) (hi : i < S.length) (hm : w.cell? ⟨p, 1, none⟩ = some (.map (some m))) (hL : Looks w m i a c vs) :
    Calls Try.prog 32 #[.pointer (some ⟨p, 0, none⟩), .int .i64 (i : Int)] w fun e w' => e = .returned (.agg (presS S[i] vs).cells.toArray) ∧ Below w.heap.size w w' := by
  obtain ⟨hok, h1, h2, ⟨cap, hp, hc1, hc2⟩, hr⟩ := h
  have hz := (zero_of_info info_sect).1
  obtain ⟨Z, hZ⟩ : ∃ Z : Array Value, Z = z129 := ⟨_, rfl⟩
  rw [← hZ] at hz
  have HZs : Hid (Z.size = 129) := by unfold Hid; rw [hZ]; exact z129_size
  have HIs : Hid ((Try.prog.info? 71).map (·.size) = some 129) := (zero_of_info info_sect).2
  obtain ⟨W, hW⟩ : ∃ W : World, W = w.alloc (.cells Z 71) := ⟨_, rfl⟩
  have hbW : Below w.heap.size w W := by rw [hW]; exact al (Below.refl _ _) _
  have HR0 : Hid (W.heap[w.heap.size]? = some (.cells Z 71 (0, 0))) := by unfold Hid; rw [hW]; exact heap_alloc_new w _
  have hp' : W.cell? ⟨p, 0, none⟩ = some (.slice (some ⟨g, 0, none⟩) S.length cap) := (hbW.cell (World.block_lt_of_cell? w _ hp)).trans hp
  have hm' : W.cell? ⟨p, 1, none⟩ = some (.map (some m)) := (hbW.cell (World.block_lt_of_cell? w _ hm)).trans hm
  have hlk := hL.run W hbW
  obtain ⟨C, hC⟩ : ∃ C : List Value, C = S[i].cells := ⟨_, rfl⟩
  have HCl : Hid (C.length = 129) := by unfold Hid; rw [hC]; exact Sec.cells_len (hok _ (List.getElem_mem hi))
  have HRC : Hid (W.rangeAt g (i * 129) C) := by unfold Hid; rw [hC]; exact rangeAt_below (hr i hi) hbW
  obtain ⟨Y, hY⟩ : ∃ Y : List Value, Y = (presS S[i] vs).cells := ⟨_, rfl⟩
  have HYl : Hid (Y.length = 129) := by unfold Hid; rw [hY]; exact Sec.cells_len (afterS_ok (hok _ (List.getElem_mem hi)) _ hL.len)
  have HYs : Hid (Y.toArray.size = 129) := by unfold Hid; rw [List.size_toArray]; exact HYl.out
  have HY1 : Hid (∀ v ∈ Y, v.oneCell' = true) := by unfold Hid; rw [hY]; exact secV_one _ _
  have HAF : Hid (Calls Try.prog 36 #[.agg C.toArray, .int .i64 (vs.length : Int), .slice a vs.length c] W fun e w' => e = .returned (.agg Y.toArray) ∧ Below W.heap.size W w') := by
    unfold Hid
    rw [hC, hY]
    exact after_t S[i] vs.length a c vs W (hok _ (List.getElem_mem hi)) hL.len hL.few (hL.lie.below hbW)
  rw [← hY]
  have hi0 : (0 : Int) ≤ (i : Int) := by omega
  have hi1 : (i : Int) < (S.length : Int) := by omega
  have HW : Hid (W = _) := hW
  have HbW : Hid _ := hbW
  have hszW : W.heap.size = w.heap.size + 1 := by rw [hW]; simp
  have HszW : Hid _ := hszW
  have hpl : p < w.heap.size := World.block_lt_of_cell? w _ hp
  rw [hW] at hlk
  clear hZ hC hY hL hr hszW hW hp' hm' hbW
  go_enter Try.func32, Try.ntmps32
  go_wp2_with (first
    | (refine wpList_load_mid rfl 71 _ rfl g (i * 129) (by rfl) C _ (by rw [← HW.out]; exact HRC.out) Try.underlying71 rfl (by rw [HIs.out, HCl.out]) ?_; rw [← HW.out])
    | (go_at_call 36; refine HAF.out.mono ?_; rintro e w1 ⟨rfl, hb1⟩; have HR1 : Hid (w1.heap[w.heap.size]? = some (.cells Z 71 (0, 0))) := (hb1.block _ (by rw [HszW.out]; exact Nat.lt_succ_self _)).trans HR0.out)
    | (refine wpList_store_mid rfl 71 _ _ rfl w.heap.size 0 Y.toArray rfl rfl (there_row ⟨HR1.out, by rw [HYs.out, HZs.out]; exact Nat.le_refl _⟩) (by rw [HIs.out, HYs.out]) (all_oneCell_toArray HY1.out) ?_))
  refine bodyPost_ret (v := .agg Y.toArray) (results_cell_row Try.results32 _ _ w.heap.size 71 Y.toArray (0, 0) _ rfl ?_ Try.underlying71 rfl (by rw [HIs.out, HYs.out])) rfl ⟨rfl, ?_⟩
  · have h9 := heap_setCells w.heap.size 71 Y 0 Z.toList w1 (by rw [Array.toArray_toList]; exact HR1.out) (by rw [HYl.out, Array.length_toList, HZs.out]; decide)
    rw [splice_all _ _ (by rw [HYl.out, Array.length_toList, HZs.out])] at h9
    exact h9
  · exact below_setCells (HbW.out.trans (hb1.mono (by rw [HszW.out]; exact Nat.le_succ _))) (Nat.le_refl _) _ _
end Go.Proofs.Ytgdkiejlggiakab
