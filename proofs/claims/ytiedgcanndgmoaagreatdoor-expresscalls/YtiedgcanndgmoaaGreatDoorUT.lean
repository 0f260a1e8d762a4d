import Derived.Test.YtiedgcanndgmoaaGreatDoorUG3
import Derived.Laws.Rows
import Derived.Laws.ResultCell
namespace Go.Proofs.YtiedgcanndgmoaaGreatDoor
set_option linter.unusedVariables false
set_option linter.unusedSimpArgs false
open Go.RowKit
theorem splice_step {α : Type} (L : List α) (k : Nat) (v : α) (r : List α) (h : k < L.length) : splice (L.set k v) (k + 1) r = splice L k (v :: r) := by
  unfold splice
  rw [List.take_set, List.drop_set_of_lt (by omega), List.take_succ_eq_append_getElem h]
  rw [List.set_append_right _ _ (by simp; omega)]
  simp only [List.length_take, Nat.min_eq_left (Nat.le_of_lt h), Nat.sub_self, List.set_cons_zero, List.append_assoc, List.cons_append, List.nil_append, List.length_cons]
  rw [show k + 1 + r.length = k + (r.length + 1) from by omega]
/-- behind a store of cells in the midst of a row -/
theorem heap_setCells (g : Nat) (t : TypeId) : ∀ (cs : List Value) (o : Nat) (L : List Value) (w : World), w.heap[g]? = some (.cells L.toArray t (0, 0)) → o + cs.length ≤ L.length → (w.setCells g o cs).heap[g]? = some (.cells (splice L o cs).toArray t (0, 0))
  | [], o, L, w, h, _ => by simpa [splice, World.setCells] using h
  | v :: r, o, L, w, h, hl => by
    rw [World.setCells, heap_setCells g t r (o + 1) (L.set o v) _ (by rw [heap_setCell_same w g o _ t v h]; simp) (by simp at hl ⊢; omega), splice_step _ _ _ _ (by simp at hl; omega)]
theorem gset1u (w : World) (g i : Nat) (v : Value) : w.grownBy (w.setCell ⟨g, i, none⟩ v) (some g) :=
  ⟨rfl, rfl, rfl, by simp, fun k _ hne => heap_setCell_other _ _ _ _ (fun e => hne (by rw [e]))⟩
theorem setCells_grown (g : Nat) : ∀ (cs : List Value) (o : Nat) (w : World), w.grownBy (w.setCells g o cs) (some g)
  | [], _, w => World.grownBy.refl _ _
  | v :: r, o, w => by
    rw [World.setCells]
    exact (gset1u w g o v).trans' (setCells_grown g r (o + 1) _)
theorem results_ctu {P : Program} {fn : Func} {p u : Tmp} {ty : TypeId} (h : fn.results = #[.cell p ty, .tmp u]) (tmps : Array Value) (w : World) (g : Nat) (t : TypeId) (cs : Array Value) (fr : Nat × Nat) (d : TypeDesc)
    (hp : tmps.getD p undef = .pointer (some ⟨g, 0, none⟩)) (hg : w.heap[g]? = some (.cells cs t fr))
    (hu : P.underlying ty = some d) (hd : (match d with | .struct _ | .array _ _ => true | _ => false) = true) (hi : (P.info? ty).map (·.size) = some cs.size) :
    (results fn tmps).run P w = .ok (.tuple #[.agg cs, tmps.getD u undef]) w := by
  rw [results_cell_tmp h]
  rw [hp]
  simp [asAddr, run_loadVar_row w g t ty cs fr d hg hu hd hi, Result.andThen]
theorem splice_all {L cs : List Value} (h : L.length = cs.length) : splice L 0 cs = cs := by unfold splice; simp; omega
theorem box_set {w : World} {g : Nat} {t : TypeId} {C : Array Value} {cs : List Value} (h : w.heap[g]? = some (.cells C t (0, 0))) (hl : C.size = cs.length) : (w.setCells g 0 cs).heap[g]? = some (.cells cs.toArray t (0, 0)) := by
  have h2 := heap_setCells g t cs 0 C.toList w (by simpa using h) (by simp; omega)
  rw [splice_all (by simpa using hl)] at h2
  exact h2
theorem box_there {w : World} {g n : Nat} {t : TypeId} {C : Array Value} (h : w.heap[g]? = some (.cells C t (0, 0))) (hl : C.size = n) : w.there g 0 n := fun i hi => by
  refine ⟨?_, by simp [World.frozen?, h]⟩
  rw [Nat.zero_add, cell_of_row _ _ _ _ _ _ h]
  simp [hl, hi]
theorem box_range {w : World} {g : Nat} {t : TypeId} {cs : List Value} (h : w.heap[g]? = some (.cells cs.toArray t (0, 0))) : w.rangeAt g 0 cs := fun j v hv => by
  rw [Nat.zero_add, cell_of_row _ _ _ _ _ _ h]
  simpa using hv
theorem heap_alloc_size1' (w : World) (o : Obj) : (w.alloc o).heap.size = w.heap.size + 1 := by simp
end Go.Proofs.YtiedgcanndgmoaaGreatDoor
namespace Go.Proofs.YtiedgcanndgmoaaGreatDoor
set_option linter.unusedVariables false
set_option linter.unusedSimpArgs false
open Go.RowKit
theorem freeR_pos {l : List Rg} (h : gotOk l) : 0 ≤ freeR l := by
  by_cases h0 : 0 < l.length
  · rw [freeR_eq h0]; have := gotOk_end h; omega
  · obtain rfl : l = [] := List.eq_nil_of_length_eq_zero (by omega)
    exact Int.le_refl _
section
set_option maxRecDepth 20000
set_option maxHeartbeats 3200000
theorem told_b (ao : Option Addr) (n cap : Nat) (l : List Rg) (b : Bool) (hb : b = true ↔ gotOk l) (w : World) (hn : n = l.length) (hx : RdR w ao l) (hl : n ≤ 8796093022208) :
    Calls Tryz.prog 76 #[.slice ao n cap] w fun e w' => e = .returned (.bool b) ∧ Below w.heap.size w w' := by
  have HN : Hid (n = l.length) := hn
  have HBB : Hid (b = true ↔ gotOk l) := hb
  clear hn hb
  go_enter Tryz.func76, Tryz.ntmps76
  go_wp2
  go_loopw [3, 4] (fun ev j wr => ∃ (k : Nat) (E : Int), k ≤ n ∧ j = .int .i64 (k : Int) ∧ ev = .int .i64 E ∧ E = freeR (l.take k) - 1 ∧ gotOk (l.take k) ∧ Below w.heap.size w wr) (fun _ j _ => n - (intOf j).toNat)
  case atStart => exact ⟨0, -1, Nat.zero_le _, rfl, rfl, rfl, trivial, Below.refl _ _⟩
  case round =>
    obtain ⟨k, E, hk, rfl, rfl, hE, hok, hbw⟩ := hrel
    have hkw : IntKind.i64.wrap ((k : Int) + 1) = ((k + 1 : Nat) : Int) := by rw [IntKind.wrap_i64]; omega
    have HOK : Hid (gotOk (l.take k)) := hok
    have HE : Hid (E = freeR (l.take k) - 1) := hE
    have HB : Hid (Below w.heap.size w wr) := hbw
    clear hok hE
    by_cases hlt : k < n
    · have hk1 : k < l.length := by rw [← HN.out]; exact hlt
      have hlti : (k : Int) < (n : Int) := by omega
      have hk0 : (0 : Int) ≤ (k : Int) := by omega
      obtain ⟨bb, o, rfl, -, -⟩ := hx k hk1
      have hr : ∀ u, Below w.heap.size w u → u.cell? ⟨bb, o + k * 2, none⟩ = some (.int .i64 l[k].1) ∧ u.cell? ⟨bb, o + k * 2 + 1, none⟩ = some (.int .i64 l[k].2) := fun u hu => by
        obtain ⟨b', o', e9, h1, h2⟩ := (hx.below hu) k hk1
        cases e9
        exact ⟨h1, h2⟩
      obtain ⟨x, hx9⟩ : ∃ x : Rg, x = l[k] := ⟨_, rfl⟩
      rw [← hx9] at hr
      have HTK : Hid (l.take (k + 1) = l.take k ++ [x]) := by unfold Hid; rw [List.take_succ_eq_append_getElem hk1, hx9]
      have HPRE : Hid (gotOk l → freeR (l.take k) ≤ x.1 ∧ x.1 < x.2 ∧ x.2 ≤ 64) := fun h => by
        rw [← List.take_append_drop (k + 1) l, HTK.out] at h
        exact ((gotOk_snoc _ _).1 (gotOk_pre h)).2
      obtain ⟨a1, a2⟩ := x
      have HNX : Hid (freeR (l.take k) ≤ a1 ∧ a1 < a2 ∧ a2 ≤ 64 → gotOk (l.take (k + 1)) ∧ a2 = freeR (l.take (k + 1)) - 1) := fun h => by
        rw [HTK.out]
        exact ⟨(gotOk_snoc _ _).2 ⟨HOK.out, h⟩, by rw [freeR_snoc]; simp⟩
      have hc1 : ∀ u, Below w.heap.size w u → u.cell? ⟨bb, o + k * 2, none⟩ = some (.int .i64 a1) := fun u hu => (hr u hu).1
      have hc2 : ∀ u, Below w.heap.size w u → u.cell? ⟨bb, o + k * 2 + 1, none⟩ = some (.int .i64 a2) := fun u hu => (hr u hu).2
      have hc2w : wr.drew.cell? ⟨bb, o + k * 2 + 1, none⟩ = some (.int .i64 a2) := hc2 _ hbw.drew
      clear hx9 hr
      by_cases h0 : a1 ≤ E
      · have d0 : decide (a1 ≤ E) = true := by simpa using h0
        obtain rfl : b = false := bF HBB.out (fun h => by have h9 := HPRE.out h; have h8 := HE.out; have h7 := freeR_pos HOK.out; simp only at h9; omega)
        clear HBB
        go_wp2_with fail
        refine wp_region_noPanic ?_
        refine wp_region_held_drew (S := (fun u => Below w.heap.size w u)) (by kernel_rfl) (by first | exact hbw.drew | assumption) (fun hHeld => ?_)
        refine tz (i := 0) 11 rfl rfl hHeld ?_
        simp only [pS]
        refine tz (i := 1) 12 rfl rfl hHeld ?_
        simp only [pS]
        refine tz (i := 2) 13 rfl rfl hHeld ?_
        simp only [pS]
        refine tz (i := 3) 14 rfl rfl hHeld ?_
        simp only [pS]
        refine tz (i := 4) 15 rfl rfl hHeld ?_
        simp only [pS]
        refine tz (i := 5) 16 rfl rfl hHeld ?_
        simp only [pS]
        refine tz (i := 6) 17 rfl rfl hHeld ?_
        simp only [pS]
        refine tz (i := 7) 18 rfl rfl hHeld ?_
        simp only [pS]
        refine skip_at (i := 8) 19 rfl rfl (by kernel_rfl) (by kernel_rfl) (by kernel_rfl) (fun _ _ _ h => h) (by rfl) hHeld ?_
        simp only [pS]
        refine skip_at (i := 9) 20 rfl rfl (by kernel_rfl) (by kernel_rfl) (by kernel_rfl) (fun _ _ _ h => h) (by rfl) hHeld ?_
        simp only [pS]
        refine skip_at (i := 10) 21 rfl rfl (by kernel_rfl) (by kernel_rfl) (by kernel_rfl) (fun _ _ _ h => h) (by rfl) hHeld ?_
        simp only [pS]
        refine skip_at (i := 11) 22 rfl rfl (by kernel_rfl) (by kernel_rfl) (by kernel_rfl) (fun _ _ _ h => h) (by rfl) hHeld ?_
        simp only [pS]
        refine skip_at (i := 12) 23 rfl rfl (by kernel_rfl) (by kernel_rfl) (by kernel_rfl) (fun _ _ _ h => h) (by rfl) hHeld ?_
        simp only [pS]
        refine skip_at (i := 13) 24 rfl rfl (by kernel_rfl) (by kernel_rfl) (by kernel_rfl) (fun _ _ _ h => h) (by rfl) hHeld ?_
        simp only [pS]
        refine tz (i := 14) 25 rfl rfl hHeld ?_
        simp only [pS]
        refine tz (i := 15) 26 rfl rfl hHeld ?_
        simp only [pS]
        refine skip_at (i := 16) 27 rfl rfl (by kernel_rfl) (by kernel_rfl) (by kernel_rfl) (fun _ _ _ h => h) (by rfl) hHeld ?_
        simp only [pS]
        refine skip_at (i := 17) 28 rfl rfl (by kernel_rfl) (by kernel_rfl) (by kernel_rfl) (fun _ _ _ h => h) (by rfl) hHeld ?_
        simp only [pS]
        refine skip_at (i := 18) 29 rfl rfl (by kernel_rfl) (by kernel_rfl) (by kernel_rfl) (fun _ _ _ h => h) (by rfl) hHeld ?_
        simp only [pS]
        refine skip_at (i := 19) 30 rfl rfl (by kernel_rfl) (by kernel_rfl) (by kernel_rfl) (fun _ _ _ h => h) (by rfl) hHeld ?_
        simp only [pS]
        refine skip_at (i := 20) 31 rfl rfl (by kernel_rfl) (by kernel_rfl) (by kernel_rfl) (fun _ _ _ h => h) (by rfl) hHeld ?_
        simp only [pS]
        refine skip_at (i := 21) 32 rfl rfl (by kernel_rfl) (by kernel_rfl) (by kernel_rfl) (fun _ _ _ h => h) (by rfl) hHeld ?_
        simp only [pS]
        refine skip_at (i := 22) 33 rfl rfl (by kernel_rfl) (by kernel_rfl) (by kernel_rfl) (fun _ _ _ h => h) (by rfl) hHeld ?_
        simp only [pS]
        refine skip_at (i := 23) 34 rfl rfl (by kernel_rfl) (by kernel_rfl) (by kernel_rfl) (fun _ _ _ h => h) (by rfl) hHeld ?_
        simp only [pS]
        refine skip_at (i := 24) 35 rfl rfl (by kernel_rfl) (by kernel_rfl) (by kernel_rfl) (fun _ _ _ h => h) (by rfl) hHeld ?_
        simp only [pS]
        refine skip_at (i := 25) 36 rfl rfl (by kernel_rfl) (by kernel_rfl) (by kernel_rfl) (fun _ _ _ h => h) (by rfl) hHeld ?_
        simp only [pS]
        refine skip_at (i := 26) 37 rfl rfl (by kernel_rfl) (by kernel_rfl) (by kernel_rfl) (fun _ _ _ h => h) (by rfl) hHeld ?_
        simp only [pS]
        refine tz (i := 27) 38 rfl rfl hHeld ?_
        simp only [pS]
        refine tz (i := 28) 39 rfl rfl hHeld ?_
        simp only [pS]
        refine skip_at (i := 29) 40 rfl rfl (by kernel_rfl) (by kernel_rfl) (by kernel_rfl) (fun _ _ _ h => h) (by rfl) hHeld ?_
        simp only [pS]
        refine skip_at (i := 30) 41 rfl rfl (by kernel_rfl) (by kernel_rfl) (by kernel_rfl) (fun _ _ _ h => h) (by rfl) hHeld ?_
        simp only [pS]
        refine skip_at (i := 31) 42 rfl rfl (by kernel_rfl) (by kernel_rfl) (by kernel_rfl) (fun _ _ _ h => h) (by rfl) hHeld ?_
        simp only [pS]
        refine skip_at (i := 32) 43 rfl rfl (by kernel_rfl) (by kernel_rfl) (by kernel_rfl) (fun _ _ _ h => h) (by rfl) hHeld ?_
        simp only [pS]
        refine skip_at (i := 33) 44 rfl rfl (by kernel_rfl) (by kernel_rfl) (by kernel_rfl) (fun _ _ _ h => h) (by rfl) hHeld ?_
        simp only [pS]
        refine skip_at (i := 34) 45 rfl rfl (by kernel_rfl) (by kernel_rfl) (by kernel_rfl) (fun _ _ _ h => h) (by rfl) hHeld ?_
        simp only [pS]
        refine tz (i := 35) 46 rfl rfl hHeld ?_
        simp only [pS]
        refine wpAnyH_done (by kernel_rfl) ?_ _
        refine NoPanic.normal ?_
        go_wp2
        go_ret
        exact ⟨rfl, HB.out.drew⟩
      · have d0 : decide (a1 ≤ E) = false := by simpa using h0
        by_cases h1 : a1 < 0
        · have d1 : decide (a1 < 0) = true := by simpa using h1
          obtain rfl : b = false := bF HBB.out (fun h => by have h9 := HPRE.out h; have h8 := HE.out; have h7 := freeR_pos HOK.out; simp only at h9; omega)
          clear HBB
          go_wp2_with fail
          refine wp_region_noPanic ?_
          refine wp_region_held_drew (S := (fun u => Below w.heap.size w u)) (by kernel_rfl) (by first | exact hbw.drew | assumption) (fun hHeld => ?_)
          refine tz (i := 0) 11 rfl rfl hHeld ?_
          simp only [pS]
          refine tz (i := 1) 12 rfl rfl hHeld ?_
          simp only [pS]
          refine tz (i := 2) 13 rfl rfl hHeld ?_
          simp only [pS]
          refine tz (i := 3) 14 rfl rfl hHeld ?_
          simp only [pS]
          refine tz (i := 4) 15 rfl rfl hHeld ?_
          simp only [pS]
          refine tz (i := 5) 16 rfl rfl hHeld ?_
          simp only [pS]
          refine tz (i := 6) 17 rfl rfl hHeld ?_
          simp only [pS]
          refine tz (i := 7) 18 rfl rfl hHeld ?_
          simp only [pS]
          refine tz (i := 8) 19 rfl rfl hHeld ?_
          simp only [pS]
          refine tz (i := 9) 20 rfl rfl hHeld ?_
          simp only [pS]
          refine tz (i := 10) 21 rfl rfl hHeld ?_
          simp only [pS]
          refine tz (i := 11) 22 rfl rfl hHeld ?_
          simp only [pS]
          refine tz (i := 12) 23 rfl rfl hHeld ?_
          simp only [pS]
          refine tz (i := 13) 24 rfl rfl hHeld ?_
          simp only [pS]
          refine tz (i := 14) 25 rfl rfl hHeld ?_
          simp only [pS]
          refine tz (i := 15) 26 rfl rfl hHeld ?_
          simp only [pS]
          refine skip_at (i := 16) 27 rfl rfl (by kernel_rfl) (by kernel_rfl) (by kernel_rfl) (fun _ _ _ h => h) (by rfl) hHeld ?_
          simp only [pS]
          refine skip_at (i := 17) 28 rfl rfl (by kernel_rfl) (by kernel_rfl) (by kernel_rfl) (fun _ _ _ h => h) (by rfl) hHeld ?_
          simp only [pS]
          refine skip_at (i := 18) 29 rfl rfl (by kernel_rfl) (by kernel_rfl) (by kernel_rfl) (fun _ _ _ h => h) (by rfl) hHeld ?_
          simp only [pS]
          refine skip_at (i := 19) 30 rfl rfl (by kernel_rfl) (by kernel_rfl) (by kernel_rfl) (fun _ _ _ h => h) (by rfl) hHeld ?_
          simp only [pS]
          refine skip_at (i := 20) 31 rfl rfl (by kernel_rfl) (by kernel_rfl) (by kernel_rfl) (fun _ _ _ h => h) (by rfl) hHeld ?_
          simp only [pS]
          refine skip_at (i := 21) 32 rfl rfl (by kernel_rfl) (by kernel_rfl) (by kernel_rfl) (fun _ _ _ h => h) (by rfl) hHeld ?_
          simp only [pS]
          refine skip_at (i := 22) 33 rfl rfl (by kernel_rfl) (by kernel_rfl) (by kernel_rfl) (fun _ _ _ h => h) (by rfl) hHeld ?_
          simp only [pS]
          refine skip_at (i := 23) 34 rfl rfl (by kernel_rfl) (by kernel_rfl) (by kernel_rfl) (fun _ _ _ h => h) (by rfl) hHeld ?_
          simp only [pS]
          refine skip_at (i := 24) 35 rfl rfl (by kernel_rfl) (by kernel_rfl) (by kernel_rfl) (fun _ _ _ h => h) (by rfl) hHeld ?_
          simp only [pS]
          refine skip_at (i := 25) 36 rfl rfl (by kernel_rfl) (by kernel_rfl) (by kernel_rfl) (fun _ _ _ h => h) (by rfl) hHeld ?_
          simp only [pS]
          refine skip_at (i := 26) 37 rfl rfl (by kernel_rfl) (by kernel_rfl) (by kernel_rfl) (fun _ _ _ h => h) (by rfl) hHeld ?_
          simp only [pS]
          refine tz (i := 27) 38 rfl rfl hHeld ?_
          simp only [pS]
          refine tz (i := 28) 39 rfl rfl hHeld ?_
          simp only [pS]
          refine skip_at (i := 29) 40 rfl rfl (by kernel_rfl) (by kernel_rfl) (by kernel_rfl) (fun _ _ _ h => h) (by rfl) hHeld ?_
          simp only [pS]
          refine skip_at (i := 30) 41 rfl rfl (by kernel_rfl) (by kernel_rfl) (by kernel_rfl) (fun _ _ _ h => h) (by rfl) hHeld ?_
          simp only [pS]
          refine skip_at (i := 31) 42 rfl rfl (by kernel_rfl) (by kernel_rfl) (by kernel_rfl) (fun _ _ _ h => h) (by rfl) hHeld ?_
          simp only [pS]
          refine skip_at (i := 32) 43 rfl rfl (by kernel_rfl) (by kernel_rfl) (by kernel_rfl) (fun _ _ _ h => h) (by rfl) hHeld ?_
          simp only [pS]
          refine skip_at (i := 33) 44 rfl rfl (by kernel_rfl) (by kernel_rfl) (by kernel_rfl) (fun _ _ _ h => h) (by rfl) hHeld ?_
          simp only [pS]
          refine skip_at (i := 34) 45 rfl rfl (by kernel_rfl) (by kernel_rfl) (by kernel_rfl) (fun _ _ _ h => h) (by rfl) hHeld ?_
          simp only [pS]
          refine tz (i := 35) 46 rfl rfl hHeld ?_
          simp only [pS]
          refine wpAnyH_done (by kernel_rfl) ?_ _
          refine NoPanic.normal ?_
          go_wp2
          go_ret
          exact ⟨rfl, HB.out.drew⟩
        · have d1 : decide (a1 < 0) = false := by simpa using h1
          by_cases h2 : a2 ≤ a1
          · have d2 : decide (a2 ≤ a1) = true := by simpa using h2
            obtain rfl : b = false := bF HBB.out (fun h => by have h9 := HPRE.out h; have h8 := HE.out; have h7 := freeR_pos HOK.out; simp only at h9; omega)
            clear HBB
            go_wp2_with fail
            refine wp_region_noPanic ?_
            refine wp_region_held_drew (S := (fun u => Below w.heap.size w u)) (by kernel_rfl) (by first | exact hbw.drew | assumption) (fun hHeld => ?_)
            refine tz (i := 0) 11 rfl rfl hHeld ?_
            simp only [pS]
            refine tz (i := 1) 12 rfl rfl hHeld ?_
            simp only [pS]
            refine tz (i := 2) 13 rfl rfl hHeld ?_
            simp only [pS]
            refine tz (i := 3) 14 rfl rfl hHeld ?_
            simp only [pS]
            refine tz (i := 4) 15 rfl rfl hHeld ?_
            simp only [pS]
            refine tz (i := 5) 16 rfl rfl hHeld ?_
            simp only [pS]
            refine tz (i := 6) 17 rfl rfl hHeld ?_
            simp only [pS]
            refine tz (i := 7) 18 rfl rfl hHeld ?_
            simp only [pS]
            refine tz (i := 8) 19 rfl rfl hHeld ?_
            simp only [pS]
            refine tz (i := 9) 20 rfl rfl hHeld ?_
            simp only [pS]
            refine tz (i := 10) 21 rfl rfl hHeld ?_
            simp only [pS]
            refine tz (i := 11) 22 rfl rfl hHeld ?_
            simp only [pS]
            refine tz (i := 12) 23 rfl rfl hHeld ?_
            simp only [pS]
            refine tz (i := 13) 24 rfl rfl hHeld ?_
            simp only [pS]
            refine tz (i := 14) 25 rfl rfl hHeld ?_
            simp only [pS]
            refine tz (i := 15) 26 rfl rfl hHeld ?_
            simp only [pS]
            refine tz (i := 16) 27 rfl rfl hHeld ?_
            simp only [pS]
            refine tz (i := 17) 28 rfl rfl hHeld ?_
            simp only [pS]
            refine tz (i := 18) 29 rfl rfl hHeld ?_
            simp only [pS]
            refine tz (i := 19) 30 rfl rfl hHeld ?_
            simp only [pS]
            refine tz (i := 20) 31 rfl rfl hHeld ?_
            simp only [pS]
            refine tz (i := 21) 32 rfl rfl hHeld ?_
            simp only [pS]
            refine tz (i := 22) 33 rfl rfl hHeld ?_
            simp only [pS]
            refine tz (i := 23) 34 rfl rfl hHeld ?_
            simp only [pS]
            refine tz (i := 24) 35 rfl rfl hHeld ?_
            simp only [pS]
            refine tz (i := 25) 36 rfl rfl hHeld ?_
            simp only [pS]
            refine tz (i := 26) 37 rfl rfl hHeld ?_
            simp only [pS]
            refine tz (i := 27) 38 rfl rfl hHeld ?_
            simp only [pS]
            refine tz (i := 28) 39 rfl rfl hHeld ?_
            simp only [pS]
            refine skip_at (i := 29) 40 rfl rfl (by kernel_rfl) (by kernel_rfl) (by kernel_rfl) (fun _ _ _ h => h) (by rfl) hHeld ?_
            simp only [pS]
            refine skip_at (i := 30) 41 rfl rfl (by kernel_rfl) (by kernel_rfl) (by kernel_rfl) (fun _ _ _ h => h) (by rfl) hHeld ?_
            simp only [pS]
            refine skip_at (i := 31) 42 rfl rfl (by kernel_rfl) (by kernel_rfl) (by kernel_rfl) (fun _ _ _ h => h) (by rfl) hHeld ?_
            simp only [pS]
            refine skip_at (i := 32) 43 rfl rfl (by kernel_rfl) (by kernel_rfl) (by kernel_rfl) (fun _ _ _ h => h) (by rfl) hHeld ?_
            simp only [pS]
            refine skip_at (i := 33) 44 rfl rfl (by kernel_rfl) (by kernel_rfl) (by kernel_rfl) (fun _ _ _ h => h) (by rfl) hHeld ?_
            simp only [pS]
            refine skip_at (i := 34) 45 rfl rfl (by kernel_rfl) (by kernel_rfl) (by kernel_rfl) (fun _ _ _ h => h) (by rfl) hHeld ?_
            simp only [pS]
            refine tz (i := 35) 46 rfl rfl hHeld ?_
            simp only [pS]
            refine wpAnyH_done (by kernel_rfl) ?_ _
            refine NoPanic.normal ?_
            go_wp2
            go_ret
            exact ⟨rfl, HB.out.drew⟩
          · have d2 : decide (a2 ≤ a1) = false := by simpa using h2
            by_cases h3 : 64 < a2
            · have d3 : decide (64 < a2) = true := by simpa using h3
              obtain rfl : b = false := bF HBB.out (fun h => by have h9 := HPRE.out h; have h8 := HE.out; have h7 := freeR_pos HOK.out; simp only at h9; omega)
              clear HBB
              go_wp2_with fail
              refine wp_region_noPanic ?_
              refine wp_region_held_drew (S := (fun u => Below w.heap.size w u)) (by kernel_rfl) (by first | exact hbw.drew | assumption) (fun hHeld => ?_)
              refine tz (i := 0) 11 rfl rfl hHeld ?_
              simp only [pS]
              refine tz (i := 1) 12 rfl rfl hHeld ?_
              simp only [pS]
              refine tz (i := 2) 13 rfl rfl hHeld ?_
              simp only [pS]
              refine tz (i := 3) 14 rfl rfl hHeld ?_
              simp only [pS]
              refine tz (i := 4) 15 rfl rfl hHeld ?_
              simp only [pS]
              refine tz (i := 5) 16 rfl rfl hHeld ?_
              simp only [pS]
              refine tz (i := 6) 17 rfl rfl hHeld ?_
              simp only [pS]
              refine tz (i := 7) 18 rfl rfl hHeld ?_
              simp only [pS]
              refine tz (i := 8) 19 rfl rfl hHeld ?_
              simp only [pS]
              refine tz (i := 9) 20 rfl rfl hHeld ?_
              simp only [pS]
              refine tz (i := 10) 21 rfl rfl hHeld ?_
              simp only [pS]
              refine tz (i := 11) 22 rfl rfl hHeld ?_
              simp only [pS]
              refine tz (i := 12) 23 rfl rfl hHeld ?_
              simp only [pS]
              refine tz (i := 13) 24 rfl rfl hHeld ?_
              simp only [pS]
              refine tz (i := 14) 25 rfl rfl hHeld ?_
              simp only [pS]
              refine tz (i := 15) 26 rfl rfl hHeld ?_
              simp only [pS]
              refine tz (i := 16) 27 rfl rfl hHeld ?_
              simp only [pS]
              refine tz (i := 17) 28 rfl rfl hHeld ?_
              simp only [pS]
              refine tz (i := 18) 29 rfl rfl hHeld ?_
              simp only [pS]
              refine tz (i := 19) 30 rfl rfl hHeld ?_
              simp only [pS]
              refine tz (i := 20) 31 rfl rfl hHeld ?_
              simp only [pS]
              refine tz (i := 21) 32 rfl rfl hHeld ?_
              simp only [pS]
              refine tz (i := 22) 33 rfl rfl hHeld ?_
              simp only [pS]
              refine tz (i := 23) 34 rfl rfl hHeld ?_
              simp only [pS]
              refine tz (i := 24) 35 rfl rfl hHeld ?_
              simp only [pS]
              refine tz (i := 25) 36 rfl rfl hHeld ?_
              simp only [pS]
              refine tz (i := 26) 37 rfl rfl hHeld ?_
              simp only [pS]
              refine tz (i := 27) 38 rfl rfl hHeld ?_
              simp only [pS]
              refine tz (i := 28) 39 rfl rfl hHeld ?_
              simp only [pS]
              refine tz (i := 29) 40 rfl rfl hHeld ?_
              simp only [pS]
              refine tz (i := 30) 41 rfl rfl hHeld ?_
              simp only [pS]
              refine tz (i := 31) 42 rfl rfl hHeld ?_
              simp only [pS]
              refine tz (i := 32) 43 rfl rfl hHeld ?_
              simp only [pS]
              refine tz (i := 33) 44 rfl rfl hHeld ?_
              simp only [pS]
              refine tz (i := 34) 45 rfl rfl hHeld ?_
              simp only [pS]
              refine tz (i := 35) 46 rfl rfl hHeld ?_
              simp only [pS]
              refine wpAnyH_done (by kernel_rfl) ?_ _
              refine NoPanic.normal ?_
              go_wp2
              go_ret
              exact ⟨rfl, HB.out.drew⟩
            · have d3 : decide (64 < a2) = false := by simpa using h3
              have HF : Hid _ := HNX.out ⟨by have := HE.out; omega, by omega, by omega⟩
              go_wp2_with fail
              refine wp_region_noPanic ?_
              refine wp_region_held_drew (S := (fun u => Below w.heap.size w u)) (by kernel_rfl) (by first | exact hbw.drew | assumption) (fun hHeld => ?_)
              refine tz (i := 0) 11 rfl rfl hHeld ?_
              simp only [pS]
              refine tz (i := 1) 12 rfl rfl hHeld ?_
              simp only [pS]
              refine tz (i := 2) 13 rfl rfl hHeld ?_
              simp only [pS]
              refine tz (i := 3) 14 rfl rfl hHeld ?_
              simp only [pS]
              refine tz (i := 4) 15 rfl rfl hHeld ?_
              simp only [pS]
              refine tz (i := 5) 16 rfl rfl hHeld ?_
              simp only [pS]
              refine tz (i := 6) 17 rfl rfl hHeld ?_
              simp only [pS]
              refine tz (i := 7) 18 rfl rfl hHeld ?_
              simp only [pS]
              refine tz (i := 8) 19 rfl rfl hHeld ?_
              simp only [pS]
              refine tz (i := 9) 20 rfl rfl hHeld ?_
              simp only [pS]
              refine tz (i := 10) 21 rfl rfl hHeld ?_
              simp only [pS]
              refine tz (i := 11) 22 rfl rfl hHeld ?_
              simp only [pS]
              refine tz (i := 12) 23 rfl rfl hHeld ?_
              simp only [pS]
              refine tz (i := 13) 24 rfl rfl hHeld ?_
              simp only [pS]
              refine tz (i := 14) 25 rfl rfl hHeld ?_
              simp only [pS]
              refine tz (i := 15) 26 rfl rfl hHeld ?_
              simp only [pS]
              refine tz (i := 16) 27 rfl rfl hHeld ?_
              simp only [pS]
              refine tz (i := 17) 28 rfl rfl hHeld ?_
              simp only [pS]
              refine tz (i := 18) 29 rfl rfl hHeld ?_
              simp only [pS]
              refine tz (i := 19) 30 rfl rfl hHeld ?_
              simp only [pS]
              refine tz (i := 20) 31 rfl rfl hHeld ?_
              simp only [pS]
              refine tz (i := 21) 32 rfl rfl hHeld ?_
              simp only [pS]
              refine tz (i := 22) 33 rfl rfl hHeld ?_
              simp only [pS]
              refine tz (i := 23) 34 rfl rfl hHeld ?_
              simp only [pS]
              refine tz (i := 24) 35 rfl rfl hHeld ?_
              simp only [pS]
              refine tz (i := 25) 36 rfl rfl hHeld ?_
              simp only [pS]
              refine tz (i := 26) 37 rfl rfl hHeld ?_
              simp only [pS]
              refine tz (i := 27) 38 rfl rfl hHeld ?_
              simp only [pS]
              refine tz (i := 28) 39 rfl rfl hHeld ?_
              simp only [pS]
              refine tz (i := 29) 40 rfl rfl hHeld ?_
              simp only [pS]
              refine tz (i := 30) 41 rfl rfl hHeld ?_
              simp only [pS]
              refine tz (i := 31) 42 rfl rfl hHeld ?_
              simp only [pS]
              refine tz (i := 32) 43 rfl rfl hHeld ?_
              simp only [pS]
              refine tz (i := 33) 44 rfl rfl hHeld ?_
              simp only [pS]
              refine tz (i := 34) 45 rfl rfl hHeld ?_
              simp only [pS]
              refine tz (i := 35) 46 rfl rfl hHeld ?_
              simp only [pS]
              refine wpAnyH_done (by kernel_rfl) ?_ _
              refine NoPanic.normal ?_
              go_wp2
              go_roundw
              case rel => exact ⟨k + 1, a2, by omega, by go_num, rfl, HF.out.2, HF.out.1, HB.out.drew⟩
              case measure => simp [intOf]; omega
    · have hlti : ¬ (k : Int) < (n : Int) := by omega
      obtain rfl : b = true := HBB.out.2 (by have h9 := HOK.out; rw [List.take_of_length_le (by rw [← HN.out]; omega)] at h9; exact h9)
      clear hbw HBB
      go_wp2
      go_ret
      exact ⟨rfl, HB.out⟩
end
end Go.Proofs.YtiedgcanndgmoaaGreatDoor
