import Derived.Test.YtibepnilhmbpeaaDoorKTa
namespace Go.Proofs.YtibepnilhmbpeaaDoor
set_option linter.unusedVariables false
set_option linter.unusedSimpArgs false
open Go.RowKit Go.Shelf
/-- no log, or one that nobody opened -/
def ZL (w : World) (v : Value) : Prop := v = .pointer none ∨ ∃ g, v = .pointer (some ⟨g, 0, none⟩) ∧ w.cell? ⟨g, 0, none⟩ = some (.pointer none)
theorem ZL.below {w w' : World} {v : Value} (h : ZL w v) (hb : Below w.heap.size w w') : ZL w' v := by
  rcases h with h | ⟨g, h1, h2⟩
  · exact .inl h
  · exact .inr ⟨g, h1, (hb.cell (World.block_lt_of_cell? w _ h2)).trans h2⟩
set_option maxRecDepth 20000
set_option maxHeartbeats 3200000
theorem smade_z {w : World} {v : Value} (h : ZL w v) : Calls Tryd.prog 31 #[v] w fun e w' => e = .returned (.bool false) ∧ w' = w := by
  rcases h with rfl | ⟨g, rfl, h⟩
  · go_enter Tryd.func31, Tryd.ntmps31
    go_wp2
    go_ret
    exact ⟨rfl, rfl⟩
  · go_enter Tryd.func31, Tryd.ntmps31
    go_wp2
    go_ret
    exact ⟨rfl, rfl⟩
theorem slook_z {w : World} {v : Value} (h : ZL w v) : Calls Tryd.prog 35 #[v] w fun e w' => e = .returned (.int .i64 1) ∧ w' = w := by
  have HM : Hid (Calls _ _ _ w _) := smade_z h
  clear h
  go_enter Tryd.func35, Tryd.ntmps35
  go_wp2_with (go_at_call 31; refine Calls.mono HM.out ?_; rintro e w' ⟨rfl, hq⟩; have hq := hq.symm; subst hq)
  go_ret
  exact ⟨rfl, rfl⟩
theorem sappend_z {w : World} {v : Value} (h : ZL w v) (ra : Option Addr) (L rc : Nat) (hL : L ≤ 8192) : Calls Tryd.prog 14 #[v, .slice ra L rc] w fun e w' => e = .returned (.tuple #[.int .u64 0, .int .i64 1]) ∧ w' = w := by
  have HM : Hid (Calls _ _ _ w _) := slook_z h
  have hLI : ¬ (8192 : Int) < (L : Int) := by omega
  clear h
  go_enter Tryd.func14, Tryd.ntmps14
  go_wp2_with (go_at_call 35; refine Calls.mono HM.out ?_; rintro e w' ⟨rfl, hq⟩; have hq := hq.symm; subst hq)
  go_ret2
  exact ⟨rfl, rfl⟩
theorem sread_z {w : World} {v : Value} (h : ZL w v) (m : Int) : Calls Tryd.prog 21 #[v, .int .u64 m] w fun e w' => e = .returned (.tuple #[.slice none 0 0, .int .i64 1]) ∧ w' = w := by
  have HM : Hid (Calls _ _ _ w _) := slook_z h
  clear h
  go_enter Tryd.func21, Tryd.ntmps21
  go_wp2_with (go_at_call 35; refine Calls.mono HM.out ?_; rintro e w' ⟨rfl, hq⟩; have hq := hq.symm; subst hq)
  go_ret2
  exact ⟨rfl, rfl⟩
theorem sflush_z {w : World} {v : Value} (h : ZL w v) : Calls Tryd.prog 23 #[v] w fun e w' => e = .returned (.int .i64 1) ∧ w' = w := by
  have HM : Hid (Calls _ _ _ w _) := slook_z h
  clear h
  go_enter Tryd.func23, Tryd.ntmps23
  go_wp2_with (go_at_call 35; refine Calls.mono HM.out ?_; rintro e w' ⟨rfl, hq⟩; have hq := hq.symm; subst hq)
  go_ret
  exact ⟨rfl, rfl⟩
theorem strim_z {w : World} {v : Value} (h : ZL w v) (m : Int) : Calls Tryd.prog 24 #[v, .int .u64 m] w fun e w' => e = .returned (.int .i64 1) ∧ w' = w := by
  have HM : Hid (Calls _ _ _ w _) := slook_z h
  clear h
  go_enter Tryd.func24, Tryd.ntmps24
  go_wp2_with (go_at_call 35; refine Calls.mono HM.out ?_; rintro e w' ⟨rfl, hq⟩; have hq := hq.symm; subst hq)
  go_ret
  exact ⟨rfl, rfl⟩
theorem sfirst_z {w : World} {v : Value} (h : ZL w v) : Calls Tryd.prog 25 #[v] w fun e w' => e = .returned (.int .u64 0) ∧ w' = w := by
  have HM : Hid (Calls _ _ _ w _) := smade_z h
  clear h
  go_enter Tryd.func25, Tryd.ntmps25
  go_wp2_with (go_at_call 31; refine Calls.mono HM.out ?_; rintro e w' ⟨rfl, hq⟩; have hq := hq.symm; subst hq)
  go_ret
  exact ⟨rfl, rfl⟩
theorem snext_z {w : World} {v : Value} (h : ZL w v) : Calls Tryd.prog 26 #[v] w fun e w' => e = .returned (.int .u64 0) ∧ w' = w := by
  have HM : Hid (Calls _ _ _ w _) := smade_z h
  clear h
  go_enter Tryd.func26, Tryd.ntmps26
  go_wp2_with (go_at_call 31; refine Calls.mono HM.out ?_; rintro e w' ⟨rfl, hq⟩; have hq := hq.symm; subst hq)
  go_ret
  exact ⟨rfl, rfl⟩
theorem sepoch_z {w : World} {v : Value} (h : ZL w v) : Calls Tryd.prog 27 #[v] w fun e w' => e = .returned (.int .u64 0) ∧ w' = w := by
  have HM : Hid (Calls _ _ _ w _) := smade_z h
  clear h
  go_enter Tryd.func27, Tryd.ntmps27
  go_wp2_with (go_at_call 31; refine Calls.mono HM.out ?_; rintro e w' ⟨rfl, hq⟩; have hq := hq.symm; subst hq)
  go_ret
  exact ⟨rfl, rfl⟩
theorem sfree_z {w : World} {v : Value} (h : ZL w v) : Calls Tryd.prog 12 #[v] w fun e w' => e = .returned (.int .i64 0) ∧ w' = w := by
  have HM : Hid (Calls _ _ _ w _) := smade_z h
  clear h
  go_enter Tryd.func12, Tryd.ntmps12
  go_wp2_with (go_at_call 31; refine Calls.mono HM.out ?_; rintro e w' ⟨rfl, hq⟩; have hq := hq.symm; subst hq)
  go_ret
  exact ⟨rfl, rfl⟩
theorem sfrom_z {w : World} {v : Value} (h : ZL w v) (m : Int) : Calls Tryd.prog 48 #[v, .int .u64 m] w fun e w' => e = .returned (.slice none 0 0) ∧ w' = w := by
  have HM : Hid (Calls _ _ _ w _) := slook_z h
  clear h
  go_enter Tryd.func48, Tryd.ntmps48
  go_wp2_with (go_at_call 35; refine Calls.mono HM.out ?_; rintro e w' ⟨rfl, hq⟩; have hq := hq.symm; subst hq)
  go_ret
  exact ⟨rfl, rfl⟩
theorem srecords_z (v : Value) (hv : v = .pointer none ∨ ∃ g, v = .pointer (some ⟨g, 0, none⟩)) (m : Int) (w : World) :
    Calls Tryd.prog 22 #[v, .int .u64 m] w fun e w' => ∃ gl gn, e = .returned (.func (.func 47) #[] #[.pointer (some ⟨gl, 0, none⟩), .pointer (some ⟨gn, 0, none⟩)]) ∧ w'.cell? ⟨gl, 0, none⟩ = some v ∧ w'.cell? ⟨gn, 0, none⟩ = some (.int .u64 m) ∧ Below w.heap.size w w' := by
  rcases hv with rfl | ⟨g, rfl⟩
  · go_enter Tryd.func22, Tryd.ntmps22
    go_wp2_with fail
    go_ret
    refine ⟨w.heap.size, w.heap.size + 1, rfl, ?_, ?_, alS (alS (Below.refl _ _) _) _⟩
    · rw [cell_of_row _ _ _ _ _ _ (below_blk (alS (Below.refl _ _) _) (heap_alloc_new w _))]; rfl
    · have h9 := heap_alloc_new (w.alloc (.cells #[.pointer none] 31)) (.cells #[.int .u64 m] 33)
      rw [show (w.alloc (.cells #[.pointer none] 31)).heap.size = w.heap.size + 1 by simp] at h9
      rw [cell_of_row _ _ _ _ _ _ h9]; rfl
  · go_enter Tryd.func22, Tryd.ntmps22
    go_wp2_with fail
    go_ret
    refine ⟨w.heap.size, w.heap.size + 1, rfl, ?_, ?_, alS (alS (Below.refl _ _) _) _⟩
    · rw [cell_of_row _ _ _ _ _ _ (below_blk (alS (Below.refl _ _) _) (heap_alloc_new w _))]; rfl
    · have h9 := heap_alloc_new (w.alloc (.cells #[.pointer (some ⟨g, 0, none⟩)] 31)) (.cells #[.int .u64 m] 33)
      rw [show (w.alloc (.cells #[.pointer (some ⟨g, 0, none⟩)] 31)).heap.size = w.heap.size + 1 by simp] at h9
      rw [cell_of_row _ _ _ _ _ _ h9]; rfl
set_option maxRecDepth 100000 in
/-- Records' closure, of no log -/
theorem srecG_z {w : World} {v : Value} {gl gn : Nat} {m0 : Int} (h : ZL w v) (hcl : w.cell? ⟨gl, 0, none⟩ = some v) (hcn : w.cell? ⟨gn, 0, none⟩ = some (.int .u64 m0)) (nf : Nat) (hn : 2 ≤ nf) (Z0 : BlkS) (At : List Nb → Nb → BlkS → World → Prop) :
    SeqG Fence.wide nf Tryd.prog 47 #[.pointer (some ⟨gl, 0, none⟩), .pointer (some ⟨gn, 0, none⟩)] encN At Z0 (fun xs => xs = []) (fun _ => False) w := by
  intro l J Jx W hW hNC hJ hJx hY h0
  have hclW : W.cell? ⟨gl, 0, none⟩ = some v := (hW.cell (p := ⟨gl, 0, none⟩) (World.block_lt_of_cell? w _ hcl)).trans hcl
  have hcnW : W.cell? ⟨gn, 0, none⟩ = some (.int .u64 m0) := (hW.cell (p := ⟨gn, 0, none⟩) (World.block_lt_of_cell? w _ hcn)).trans hcn
  have HFR : Hid (Calls _ _ _ W _) := sfrom_z (h.below hW) m0
  have HJ0 : Hid (J [] Z0 W) := h0
  clear hcl hcn hJ hJx hY h0 hNC hW
  rcases h with rfl | ⟨g, rfl, -⟩
  · refine callsIn_of_wp Tryd.func47 rfl trivial ?_ rfl
    simp only [Tryd.ntmps47, List.size_toArray, List.length_cons, List.length_nil, Nat.reduceAdd, Nat.reduceSub, Array.replicate_succ, Array.replicate_zero, List.push_toArray, List.append_toArray, List.nil_append, List.cons_append]
    gi_wp2
    refine ⟨trivial, fun _ => by omega, ?_⟩
    refine (callsIn_wide.2 HFR.out).mono ?_
    rintro e W2 ⟨rfl, rfl⟩
    gi_wp2
    gi_loopw [10] (fun j wr => j = .int .i64 0 ∧ J [] Z0 wr) (fun j _ => 0)
    case atStart => exact ⟨rfl, HJ0.out⟩
    case round =>
      obtain ⟨rfl, hJs⟩ := hrel
      gi_wp2
      go_end0
      first | exact ⟨⟨_, rfl⟩, .inl ⟨[], Z0, rfl, hJs⟩⟩ | exact ⟨⟨_, rfl⟩, .inl ⟨[], rfl, Z0, hJs⟩⟩ | exact ⟨⟨_, rfl⟩, .inl ⟨Z0, hJs⟩⟩
  · refine callsIn_of_wp Tryd.func47 rfl trivial ?_ rfl
    simp only [Tryd.ntmps47, List.size_toArray, List.length_cons, List.length_nil, Nat.reduceAdd, Nat.reduceSub, Array.replicate_succ, Array.replicate_zero, List.push_toArray, List.append_toArray, List.nil_append, List.cons_append]
    gi_wp2
    refine ⟨trivial, fun _ => by omega, ?_⟩
    refine (callsIn_wide.2 HFR.out).mono ?_
    rintro e W2 ⟨rfl, rfl⟩
    gi_wp2
    gi_loopw [10] (fun j wr => j = .int .i64 0 ∧ J [] Z0 wr) (fun j _ => 0)
    case atStart => exact ⟨rfl, HJ0.out⟩
    case round =>
      obtain ⟨rfl, hJs⟩ := hrel
      gi_wp2
      go_end0
      first | exact ⟨⟨_, rfl⟩, .inl ⟨[], Z0, rfl, hJs⟩⟩ | exact ⟨⟨_, rfl⟩, .inl ⟨[], rfl, Z0, hJs⟩⟩ | exact ⟨⟨_, rfl⟩, .inl ⟨Z0, hJs⟩⟩
end Go.Proofs.YtibepnilhmbpeaaDoor
namespace Go.Proofs.YtibepnilhmbpeaaDoor
set_option linter.unusedVariables false
set_option linter.unusedSimpArgs false
open Go.RowKit
/-- no disk, or one that nobody made -/
def ZD (w : World) (v : Value) : Prop := v = .pointer none ∨ ∃ p a c, v = .pointer (some ⟨p, 0, none⟩) ∧ w.cell? ⟨p, 0, none⟩ = some (.slice a 0 c)
theorem ZD.below {w w' : World} {v : Value} (h : ZD w v) (hb : Below w.heap.size w w') : ZD w' v := by
  rcases h with h | ⟨p, a, c, h1, h2⟩
  · exact .inl h
  · exact .inr ⟨p, a, c, h1, (hb.cell (World.block_lt_of_cell? w _ h2)).trans h2⟩
set_option maxRecDepth 20000
set_option maxHeartbeats 3200000
theorem sectors_z {w : World} {v : Value} (h : ZD w v) : Calls Tryd.prog 54 #[v] w fun e w' => e = .returned (.int .i64 0) ∧ w' = w := by
  rcases h with rfl | ⟨p, a, c, rfl, h⟩
  · exact sectors_nil w
  · exact sectors_t p a 0 c w h
theorem placeOn_z {w : World} {v : Value} (h : ZD w v) : Calls Tryd.prog 37 #[v, .int .i64 0, .int .i64 3] w fun e w' => e = .returned (.tuple #[plZ, .int .i64 1]) ∧ Below w.heap.size w w' := by
  have HW : Hid (Below w.heap.size w (w.alloc (.cells #[.pointer none, .int .i64 0, .int .i64 0] tPl))) := alS (Below.refl _ _) _
  have HSC : Hid (Calls _ _ _ _ _) := sectors_z (h.below HW.out)
  rcases h with rfl | ⟨p, a, c, rfl, -⟩
  all_goals
    go_enter Tryd.func37, Tryd.ntmps37
    go_wp2_with (go_at_call 54; refine Calls.mono HSC.out ?_; rintro e w1 ⟨rfl, hq⟩; have hq := hq.symm; subst hq)
    obtain ⟨k0, k1, k2⟩ := cellsP3 (heap_alloc_new w (.cells #[.pointer none, .int .i64 0, .int .i64 0] tPl))
    obtain ⟨j0, j1, j2⟩ := cellsP3 (set3 (x0 := .pointer none) (x1 := .int .i64 0) (x2 := .int .i64 0) (heap_alloc_new w (.cells #[.pointer none, .int .i64 0, .int .i64 0] tPl)))
    refine bodyPost_ret (v := .tuple #[.agg #[.pointer none, .int .i64 0, .int .i64 0], .int .i64 1]) (by first | (simp [results, Tryd.results37, go_sem, k0, k1, k2]; done) | (simp [results, Tryd.results37, go_sem, j0, j1, j2]; done)) rfl ?_
    exact ⟨rfl, by first | exact alS (Below.refl _ _) _ | exact HW.out.grown ((gset1 _ _ _ _).trans' ((gset1 _ _ _ _).trans' (gset1 _ _ _ _))) HW.out.size (fun b e => by cases e; exact Nat.le_refl _)⟩
theorem Format_z {w : World} {v : Value} (h : ZD w v) : Calls Tryd.prog 17 #[v, .int .i64 0, .int .i64 3] w fun e w' => e = .returned (.int .i64 1) ∧ Below w.heap.size w w' := by
  have HPO : Hid _ := placeOn_z h
  rcases h with rfl | ⟨p, a, c, rfl, -⟩
  all_goals
    go_enter Tryd.func17, Tryd.ntmps17
    go_wp2_with (go_at_call 37; refine Calls.mono HPO.out ?_; rintro e u1 ⟨rfl, hb1⟩; have HB1 : Hid (Below w.heap.size w u1) := hb1; clear hb1)
    go_ret
    exact ⟨rfl, alS HB1.out _⟩
theorem Open_z {w : World} {v : Value} (h : ZD w v) : Calls Tryd.prog 18 #[v, .int .i64 0, .int .i64 3] w fun e w' => e = .returned (.tuple #[.pointer none, .int .i64 1]) ∧ Below w.heap.size w w' := by
  have HPO : Hid _ := placeOn_z h
  rcases h with rfl | ⟨p, a, c, rfl, -⟩
  all_goals
    go_enter Tryd.func18, Tryd.ntmps18
    go_wp2_with (go_at_call 37; refine Calls.mono HPO.out ?_; rintro e u1 ⟨rfl, hb1⟩; have HB1 : Hid (Below w.heap.size w u1) := hb1; clear hb1)
    go_ret2
    exact ⟨rfl, alS HB1.out _⟩
end Go.Proofs.YtibepnilhmbpeaaDoor
