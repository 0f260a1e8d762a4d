import Derived.Test.YtdpkommmkcmifabOpenF
namespace Go.Proofs.Ytdpkommmkcmifab
set_option linter.unusedVariables false
set_option linter.unusedSimpArgs false
open Go.RowKit
theorem cells5 {W : World} {g : Nat} {t : TypeId} {v0 v1 v2 v3 v4 : Value} (h : W.heap[g]? = some (.cells #[v0, v1, v2, v3, v4] t (0, 0))) : W.cell? ⟨g, 0, none⟩ = some v0 ∧ W.cell? ⟨g, 1, none⟩ = some v1 ∧ W.cell? ⟨g, 2, none⟩ = some v2 ∧ W.cell? ⟨g, 3, none⟩ = some v3 ∧ W.cell? ⟨g, 4, none⟩ = some v4 ∧ W.frozen? ⟨g, 0, none⟩ = false ∧ W.frozen? ⟨g, 1, none⟩ = false ∧ W.frozen? ⟨g, 2, none⟩ = false ∧ W.frozen? ⟨g, 3, none⟩ = false ∧ W.frozen? ⟨g, 4, none⟩ = false :=
  ⟨by rw [cell_of_row W g 0 _ t _ h]; rfl, by rw [cell_of_row W g 1 _ t _ h]; rfl, by rw [cell_of_row W g 2 _ t _ h]; rfl, by rw [cell_of_row W g 3 _ t _ h]; rfl, by rw [cell_of_row W g 4 _ t _ h]; rfl, frozen_of_row W g 0 _ t h, frozen_of_row W g 1 _ t h, frozen_of_row W g 2 _ t h, frozen_of_row W g 3 _ t h, frozen_of_row W g 4 _ t h⟩
theorem below_set5 {W w : World} {g : Nat} {v0 v1 v2 v3 v4 : Value} (h : Below W.heap.size W w) (hg : W.heap.size ≤ g) : Below W.heap.size W (((((w.setCell ⟨g, 0, none⟩ v0).setCell ⟨g, 1, none⟩ v1).setCell ⟨g, 2, none⟩ v2).setCell ⟨g, 3, none⟩ v3).setCell ⟨g, 4, none⟩ v4) :=
  Below.setCell (p := ⟨g, _, none⟩) (Below.setCell (p := ⟨g, _, none⟩) (Below.setCell (p := ⟨g, _, none⟩) (Below.setCell (p := ⟨g, _, none⟩) (Below.setCell (p := ⟨g, _, none⟩) (h) hg _) hg _) hg _) hg _) hg _
theorem heap_set5 {w : World} {g : Nat} {t : TypeId} {u0 u1 u2 u3 u4 v0 v1 v2 v3 v4 : Value} (h : w.heap[g]? = some (.cells #[u0, u1, u2, u3, u4] t (0, 0))) : (((((w.setCell ⟨g, 0, none⟩ v0).setCell ⟨g, 1, none⟩ v1).setCell ⟨g, 2, none⟩ v2).setCell ⟨g, 3, none⟩ v3).setCell ⟨g, 4, none⟩ v4).heap[g]? = some (.cells #[v0, v1, v2, v3, v4] t (0, 0)) := by
  have h0 := heap_setCell_same _ g 0 _ t v0 h
  simp only [List.setIfInBounds_toArray, List.set_cons_zero, List.set_cons_succ] at h0
  have h1 := heap_setCell_same _ g 1 _ t v1 h0
  simp only [List.setIfInBounds_toArray, List.set_cons_zero, List.set_cons_succ] at h1
  have h2 := heap_setCell_same _ g 2 _ t v2 h1
  simp only [List.setIfInBounds_toArray, List.set_cons_zero, List.set_cons_succ] at h2
  have h3 := heap_setCell_same _ g 3 _ t v3 h2
  simp only [List.setIfInBounds_toArray, List.set_cons_zero, List.set_cons_succ] at h3
  have h4 := heap_setCell_same _ g 4 _ t v4 h3
  simp only [List.setIfInBounds_toArray, List.set_cons_zero, List.set_cons_succ] at h4
  exact h4
theorem gr_set5 {w : World} {g : Nat} {v0 v1 v2 v3 v4 : Value} : w.grownBy (((((w.setCell ⟨g, 0, none⟩ v0).setCell ⟨g, 1, none⟩ v1).setCell ⟨g, 2, none⟩ v2).setCell ⟨g, 3, none⟩ v3).setCell ⟨g, 4, none⟩ v4) (some g) :=
  gr_set (gr_set (gr_set (gr_set (gr_set (World.grownBy.refl _ _) _ _) _ _) _ _) _ _) _ _
theorem results_c4 {P : Program} {fn : Func} {p u v x : Tmp} {ty : TypeId} (h : fn.results = #[.cell p ty, .tmp u, .tmp v, .tmp x]) (tmps : Array Value) (w : World) (g : Nat) (t : TypeId) (cs : Array Value) (fr : Nat × Nat) (d : TypeDesc)
    (hp : tmps.getD p undef = .pointer (some ⟨g, 0, none⟩)) (hg : w.heap[g]? = some (.cells cs t fr))
    (hu : P.underlying ty = some d) (hd : (match d with | .struct _ | .array _ _ => true | _ => false) = true) (hi : (P.info? ty).map (·.size) = some cs.size) :
    (results fn tmps).run P w = .ok (.tuple #[.agg cs, tmps.getD u undef, tmps.getD v undef, tmps.getD x undef]) w := by
  have hp' : tmps[p]?.getD undef = .pointer (some ⟨g, 0, none⟩) := by simpa using hp
  simp only [results, h]
  simp [Sem.run_bind, Result.andThen, hp', asAddr, run_loadVar_row w g t ty cs fr d hg hu hd hi]
/-- what Open answers: stream, time, number, life, data, from, newest, error -/
def OpenIs (b : Bun) (st : Int) (tm sq lf : Nat) (xs : List UInt8) (fr : Nat) (nw : Bool) (n : Int) : Prop :=
  (ValidIs b n ∧ n ≠ 0 ∧ st = 0 ∧ tm = 0 ∧ sq = 0 ∧ lf = 0 ∧ xs = [] ∧ fr = 0 ∧ nw = false) ∨
  (ValidIs b 0 ∧ carS b = false ∧ n = 21 ∧ st = 0 ∧ tm = 0 ∧ sq = 0 ∧ lf = 0 ∧ xs = [] ∧ fr = 0 ∧ nw = false) ∨
  (ValidIs b 0 ∧ carS b = true ∧ n = 0 ∧ st = (b.e3 : Nat) ∧ tm = b.tm ∧ sq = b.sq ∧ lf = b.lf ∧ xs = b.py ∧ fr = b.e2 ∧ nw = decide (b.fl / 2 % 2 = 1))
theorem box12g {W : World} {g R : Nat} {t : TypeId} {v0 v1 v2 v3 v4 v5 v6 v7 v8 v9 v10 v11 : Value} (h : W.heap[g]? = some (.cells #[v0, v1, v2, v3, v4, v5, v6, v7, v8, v9, v10, v11] t (0, 0))) (hne : g ≠ R) : ∀ i v, #[v0, v1, v2, v3, v4, v5, v6, v7, v8, v9, v10, v11][i]? = some v → ∀ u, W.grownBy u (some R) → u.cell? ⟨g, i, none⟩ = some v := by
  intro i v hi u hu
  rw [cell_of_row u g i _ t _ ((hu.block g (Array.getElem?_eq_some_iff.1 h).1 (by simp; omega)).trans h)]
  exact hi
set_option maxRecDepth 20000 in
set_option maxHeartbeats 800000 in
theorem open_any (b : Bun) (ba : Option Addr) (bc : Nat) (pa : Option Addr) (pc : Nat) (w : World) (h : BunR w b ba bc pa pc) :
    Calls Try.prog 14 #[bunV b ba bc pa pc] w fun e w' => (∃ st tm sq lf a c xs fr nw n, e = .returned (.tuple #[.agg #[.int .i64 st, .int .u64 (tm : Nat), .int .u64 (sq : Nat), .int .u64 (lf : Nat), .slice a xs.length c], .int .u64 (fr : Nat), .bool nw, .int .i64 n]) ∧ OpenIs b st tm sq lf xs fr nw n ∧ Rd w' a xs) ∧ Below w.heap.size w w' := by
  unfold bunV
  obtain ⟨W0, hW0⟩ : ∃ W0 : World, W0 = (w.alloc (.cells #[.int .u64 b.fl, .int .u64 b.e0, .int .u64 b.e1, .int .u64 b.e2, .int .u64 b.e3, .int .u64 b.e4, .int .u64 b.e5, .int .u64 b.tm, .int .u64 b.sq, .int .u64 b.lf, .slice ba b.bl.length bc, .slice pa b.py.length pc] 36)).alloc (.cells #[.int .i64 0, .int .u64 0, .int .u64 0, .int .u64 0, .slice none 0 0] 27) := ⟨_, rfl⟩
  have hI : W0.heap[w.heap.size]? = some (.cells #[.int .u64 b.fl, .int .u64 b.e0, .int .u64 b.e1, .int .u64 b.e2, .int .u64 b.e3, .int .u64 b.e4, .int .u64 b.e5, .int .u64 b.tm, .int .u64 b.sq, .int .u64 b.lf, .slice ba b.bl.length bc, .slice pa b.py.length pc] 36 (0, 0)) := by rw [hW0]; exact (two_new w _ _).1
  have hb0 : Below w.heap.size w W0 := by rw [hW0]; exact al (al (Below.refl _ _) _) _
  have hR : W0.heap[w.heap.size + 1]? = some (.cells #[.int .i64 0, .int .u64 0, .int .u64 0, .int .u64 0, .slice none 0 0] 27 (0, 0)) := by rw [hW0]; exact (two_new w _ _).2
  have HS0 : Hid (w.heap.size + 1 + 1 = W0.heap.size) := by unfold Hid; rw [hW0]; simp
  go_enter Try.func14, Try.ntmps14
  go_wp2_with fail
  rw [← hW0]
  clear hW0
  refine (valid_any b ba bc pa pc W0 (h.below hb0)).mono ?_
  rintro e w1 ⟨⟨n, rfl, hv⟩, hb1⟩
  have HV : Hid (ValidIs b n) := hv
  clear hv
  have hI1 := box_on hI hb1
  have hR1 := box_on hR hb1
  have hbw1 := below_next hb0 hb1
  obtain ⟨r0, r1, r2, r3, r4, s0, s1, s2, s3, s4⟩ := cells5 hR1
  by_cases h0 : n = 0
  rotate_left
  · go_wp2
    have hfin := heap_set5 (v0 := .int .i64 0) (v1 := .int .u64 0) (v2 := .int .u64 0) (v3 := .int .u64 0) (v4 := .slice none 0 0) hR1
    refine bodyPost_ret (results_c4 rfl _ _ (w.heap.size + 1) 27 _ (0, 0) _ rfl hfin Try.underlying27 rfl (by kernel_rfl)) rfl ?_
    exact ⟨⟨0, 0, 0, 0, none, 0, [], 0, false, n, rfl, .inl ⟨HV.out, h0, rfl, rfl, rfl, rfl, rfl, rfl, rfl⟩, Rd.nil _ _⟩, below_set5 hbw1 (Nat.le_succ _)⟩
  subst h0
  have HG : Hid (GoodB b) := by
    rcases HV.out with ⟨_, h⟩ | ⟨h, _⟩
    · cases h
    · exact h
  obtain ⟨i0, i1, i2, i3, i4, i5, i6, i7, i8, i9, i10, i11, -⟩ := cells12 hI1
  go_wp2_with fail
  refine (carries_any b ba bc pa pc w1 HG.out.fl).mono ?_
  rintro e w2 ⟨rfl, hb2⟩
  have hI2 := box_on hI1 hb2
  have hR2 := box_on hR1 hb2
  have hbw2 := below_next hbw1 hb2
  clear i0 i1 i2 i3 i4 i5 i6 i7 i8 i9 i10 i11 r0 r1 r2 r3 r4 s0 s1 s2 s3 s4
  obtain ⟨r0, r1, r2, r3, r4, s0, s1, s2, s3, s4⟩ := cells5 hR2
  rcases hC : carS b with _ | _
  · go_wp2
    have hfin := heap_set5 (v0 := .int .i64 0) (v1 := .int .u64 0) (v2 := .int .u64 0) (v3 := .int .u64 0) (v4 := .slice none 0 0) hR2
    refine bodyPost_ret (results_c4 rfl _ _ (w.heap.size + 1) 27 _ (0, 0) _ rfl hfin Try.underlying27 rfl (by kernel_rfl)) rfl ?_
    exact ⟨⟨0, 0, 0, 0, none, 0, [], 0, false, 21, rfl, .inr (.inl ⟨HV.out, hC, rfl, rfl, rfl, rfl, rfl, rfl, rfl, rfl⟩), Rd.nil _ _⟩, below_set5 hbw2 (Nat.le_succ _)⟩
  · have he3 : b.e3 < 8 := by unfold carS at hC; simp at hC; exact hC.2.2
    have hw3 : IntKind.i64.wrap ((b.e3 : Nat) : Int) = ((b.e3 : Nat) : Int) := by rw [IntKind.wrap_i64]; omega
    have hall := box12g hI2 (show w.heap.size ≠ w.heap.size + 1 by omega)
    have u4 := hall 4 _ rfl
    have u7 := hall 7 _ rfl
    have u8 := hall 8 _ rfl
    have u9 := hall 9 _ rfl
    have u11 := hall 11 _ rfl
    have u0 := hall 0 _ rfl
    have u3 := hall 3 _ rfl
    clear hall
    have HRp : Hid (Rd w2 pa b.py) := h.rp.below hbw2
    have HNp : Hid (pa = none → pc = 0) := h.np
    have HPl : Hid (b.py.length ≤ 512) := HG.out.py
    have hself := World.grownBy.refl w2 (some (w.heap.size + 1))
    have hRl : w.heap.size + 1 < w2.heap.size := (Array.getElem?_eq_some_iff.1 hR2).1
    have HR2 : Hid (w2.heap[w.heap.size + 1]? = some (.cells #[.int .i64 0, .int .u64 0, .int .u64 0, .int .u64 0, .slice none 0 0] 27 (0, 0))) := hR2
    clear hR2 hR1 hR hI hI1 r0 r1 r2 r3 r4 s0 s1 s2 s3 s4
    go_wp2_with fail
    refine wp_region_noPanic ?_
    refine wp_region_held_drew (S := (fun u => w2.grownBy u (some (w.heap.size + 1)))) (by kernel_rfl) (by with_reducible first | assumption | exact gr_drw _ | exact gr_set (gr_set (gr_set (gr_set (gr_set (by assumption) _ _) _ _) _ _) _ _) _ _) (fun hHeld => ?_)
    refine take_at (i := 0) 17 (v := ?_) rfl rfl (by kernel_rfl) (by kernel_rfl) (by kernel_rfl) (fun _ _ _ h => h) (by rfl) ?_ hHeld ?_
    rotate_left
    · (intro w hSw; (try dsimp only at hSw); go_simp; try with_reducible rfl)
    simp only [Act.put, List.setIfInBounds_toArray, List.set_cons_zero, List.set_cons_succ]
    refine take_at (i := 1) 18 (v := ?_) rfl rfl (by kernel_rfl) (by kernel_rfl) (by kernel_rfl) (fun _ _ _ h => h) (by rfl) ?_ hHeld ?_
    rotate_left
    · (intro w hSw; (try dsimp only at hSw); go_simp; try with_reducible rfl)
    simp only [Act.put, List.setIfInBounds_toArray, List.set_cons_zero, List.set_cons_succ]
    refine take_at (i := 2) 19 (v := ?_) rfl rfl (by kernel_rfl) (by kernel_rfl) (by kernel_rfl) (fun _ _ _ h => h) (by rfl) ?_ hHeld ?_
    rotate_left
    · (intro w hSw; (try dsimp only at hSw); go_simp; try with_reducible rfl)
    simp only [Act.put, List.setIfInBounds_toArray, List.set_cons_zero, List.set_cons_succ]
    refine take_at (i := 3) 20 (v := ?_) rfl rfl (by kernel_rfl) (by kernel_rfl) (by kernel_rfl) (fun _ _ _ h => h) (by rfl) ?_ hHeld ?_
    rotate_left
    · (intro w hSw; (try dsimp only at hSw); go_simp; try with_reducible rfl)
    simp only [Act.put, List.setIfInBounds_toArray, List.set_cons_zero, List.set_cons_succ]
    refine take_at (i := 4) 21 (v := ?_) rfl rfl (by kernel_rfl) (by kernel_rfl) (by kernel_rfl) (fun _ _ _ h => h) (by rfl) ?_ hHeld ?_
    rotate_left
    · (intro w hSw; (try dsimp only at hSw); go_simp; try with_reducible rfl)
    simp only [Act.put, List.setIfInBounds_toArray, List.set_cons_zero, List.set_cons_succ]
    refine take_at (i := 5) 22 (v := ?_) rfl rfl (by kernel_rfl) (by kernel_rfl) (by kernel_rfl) (fun _ _ _ h => h) (by rfl) ?_ hHeld ?_
    rotate_left
    · (intro w hSw; (try dsimp only at hSw); go_simp; try with_reducible rfl)
    simp only [Act.put, List.setIfInBounds_toArray, List.set_cons_zero, List.set_cons_succ]
    refine take_at (i := 6) 23 (v := ?_) rfl rfl (by kernel_rfl) (by kernel_rfl) (by kernel_rfl) (fun _ _ _ h => h) (by rfl) ?_ hHeld ?_
    rotate_left
    · (intro w hSw; (try dsimp only at hSw); go_simp; try with_reducible rfl)
    simp only [Act.put, List.setIfInBounds_toArray, List.set_cons_zero, List.set_cons_succ]
    refine take_at (i := 7) 24 (v := ?_) rfl rfl (by kernel_rfl) (by kernel_rfl) (by kernel_rfl) (fun _ _ _ h => h) (by rfl) ?_ hHeld ?_
    rotate_left
    · (intro w hSw; (try dsimp only at hSw); go_simp; try with_reducible rfl)
    simp only [Act.put, List.setIfInBounds_toArray, List.set_cons_zero, List.set_cons_succ]
    refine take_at (i := 8) 25 (v := ?_) rfl rfl (by kernel_rfl) (by kernel_rfl) (by kernel_rfl) (fun _ _ _ h => h) (by rfl) ?_ hHeld ?_
    rotate_left
    · (intro w hSw; (try dsimp only at hSw); go_simp; try with_reducible rfl)
    simp only [Act.put, List.setIfInBounds_toArray, List.set_cons_zero, List.set_cons_succ]
    refine take_at (i := 9) 26 (v := ?_) rfl rfl (by kernel_rfl) (by kernel_rfl) (by kernel_rfl) (fun _ _ _ h => h) (by rfl) ?_ hHeld ?_
    rotate_left
    · (intro w hSw; (try dsimp only at hSw); go_simp; try with_reducible rfl)
    simp only [Act.put, List.setIfInBounds_toArray, List.set_cons_zero, List.set_cons_succ]
    refine run_at (i := 10) rfl (by kernel_rfl) (by rfl) (fun K hK => ?_)
    simp only [List.getElem_toArray, List.getElem_cons_zero, List.getElem_cons_succ]
    go_simp
    first | (go_at_call 30; refine (clone_n pa _ pc b.py rfl _ (HRp.out.below (by first | exact (Below.refl _ _).drew | exact Below.refl _ _)) HNp.out (by have := HPl.out; omega)).mono ?_; rintro e w6 ⟨v6, rfl, hown6, hb6⟩; have hb26 : Below w2.heap.size w2 w6 := below_next (B := w2) (by first | exact (Below.refl _ _).drew | exact Below.refl _ _) hb6; have hS6 : w2.grownBy w6 (some (w.heap.size + 1)) := gr_below (World.grownBy.refl _ _) hb26; obtain ⟨a6, c6, rfl, -, -, -, hr6, hk6⟩ := hown6.val; have hR6 := box_on HR2.out hb26; obtain ⟨r0, r1, r2, r3, r4, s0, s1, s2, s3, s4⟩ := cells5 hR6; have HR6 : Hid _ := hR6; clear hR6 hown6)
    go_wp2_with fail
    refine hK.out _ _ (by with_reducible first | assumption | exact gr_drw _ | exact gr_set (gr_set (gr_set (gr_set (gr_set (by assumption) _ _) _ _) _ _) _ _) _ _) ?_
    clear hK K
    intro hHeld2
    clear hHeld
    have hHeld := hHeld2
    clear hHeld2
    try simp only [Act.put, List.setIfInBounds_toArray, List.set_cons_zero, List.set_cons_succ]
    refine take_at (i := 11) 28 (v := ?_) rfl rfl (by kernel_rfl) (by kernel_rfl) (by kernel_rfl) (fun _ _ _ h => h) (by rfl) ?_ hHeld ?_
    rotate_left
    · (intro w hSw; (try dsimp only at hSw); go_simp; try with_reducible rfl)
    simp only [Act.put, List.setIfInBounds_toArray, List.set_cons_zero, List.set_cons_succ]
    refine run_at (i := 12) rfl (by kernel_rfl) (by rfl) (fun K hK => ?_)
    simp only [List.getElem_toArray, List.getElem_cons_zero, List.getElem_cons_succ]
    go_simp
    go_wp2_with fail
    refine hK.out _ _ (by with_reducible first | assumption | exact gr_drw _ | exact gr_set (gr_set (gr_set (gr_set (gr_set (by assumption) _ _) _ _) _ _) _ _) _ _) ?_
    clear hK K
    intro hHeld2
    clear hHeld
    have hHeld := hHeld2
    clear hHeld2
    try simp only [Act.put, List.setIfInBounds_toArray, List.set_cons_zero, List.set_cons_succ]
    refine wpAnyH_done (by kernel_rfl) ?_ _
    refine NoPanic.normal ?_
    obtain ⟨X, hX⟩ : ∃ X : World, X = (((((w6.setCell ⟨w.heap.size + 1, 0, none⟩ (.int .i64 ((b.e3 : Nat) : Int))).setCell ⟨w.heap.size + 1, 1, none⟩ (.int .u64 b.tm)).setCell ⟨w.heap.size + 1, 2, none⟩ (.int .u64 b.sq)).setCell ⟨w.heap.size + 1, 3, none⟩ (.int .u64 b.lf)).setCell ⟨w.heap.size + 1, 4, none⟩ (.slice a6 b.py.length c6)) := ⟨_, rfl⟩
    rw [← hX]
    have hXR : X.heap[w.heap.size + 1]? = some (.cells #[.int .i64 ((b.e3 : Nat) : Int), .int .u64 b.tm, .int .u64 b.sq, .int .u64 b.lf, .slice a6 b.py.length c6] 27 (0, 0)) := by rw [hX]; exact heap_set5 HR6.out
    have hgX : w2.grownBy X (some (w.heap.size + 1)) := by rw [hX]; exact World.grownBy.trans' hS6 gr_set5
    have hbX : Below w.heap.size w X := by rw [hX]; exact below_set5 (below_next hbw2 hb26) (Nat.le_succ _)
    have HRX : Hid (Rd X a6 b.py) := by
      rw [hX]
      refine hr6.grown gr_set5 (fun q hq => ?_)
      have := (hk6 q hq).1
      have h2 : w2.heap.size ≤ q.block := this
      simp
      omega
    have HAB : Hid (∀ q, a6 = some q → some q.block ≠ some (w.heap.size + 1)) := fun q hq => by
      have := (hk6 q hq).1
      have h2 : w2.heap.size ≤ q.block := this
      simp
      omega
    clear hX r0 r1 r2 r3 r4 s0 s1 s2 s3 s4 HR6 hr6 hk6
    obtain ⟨r0, r1, r2, r3, r4, s0, s1, s2, s3, s4⟩ := cells5 hXR
    have g0 := fun (u : World) (hu : X.grownBy u (some (w.heap.size + 1)) ∧ u.heap[w.heap.size + 1]? = some (.cells #[.int .i64 ((b.e3 : Nat) : Int), .int .u64 b.tm, .int .u64 b.sq, .int .u64 b.lf, .slice a6 b.py.length c6] 27 (0, 0))) => (cells5 hu.2).1
    have g1 := fun (u : World) (hu : X.grownBy u (some (w.heap.size + 1)) ∧ u.heap[w.heap.size + 1]? = some (.cells #[.int .i64 ((b.e3 : Nat) : Int), .int .u64 b.tm, .int .u64 b.sq, .int .u64 b.lf, .slice a6 b.py.length c6] 27 (0, 0))) => (cells5 hu.2).2.1
    have g2 := fun (u : World) (hu : X.grownBy u (some (w.heap.size + 1)) ∧ u.heap[w.heap.size + 1]? = some (.cells #[.int .i64 ((b.e3 : Nat) : Int), .int .u64 b.tm, .int .u64 b.sq, .int .u64 b.lf, .slice a6 b.py.length c6] 27 (0, 0))) => (cells5 hu.2).2.2.1
    have g3 := fun (u : World) (hu : X.grownBy u (some (w.heap.size + 1)) ∧ u.heap[w.heap.size + 1]? = some (.cells #[.int .i64 ((b.e3 : Nat) : Int), .int .u64 b.tm, .int .u64 b.sq, .int .u64 b.lf, .slice a6 b.py.length c6] 27 (0, 0))) => (cells5 hu.2).2.2.2.1
    have g4 := fun (u : World) (hu : X.grownBy u (some (w.heap.size + 1)) ∧ u.heap[w.heap.size + 1]? = some (.cells #[.int .i64 ((b.e3 : Nat) : Int), .int .u64 b.tm, .int .u64 b.sq, .int .u64 b.lf, .slice a6 b.py.length c6] 27 (0, 0))) => (cells5 hu.2).2.2.2.2.1
    have t0 := fun (u : World) (hu : X.grownBy u (some (w.heap.size + 1)) ∧ u.heap[w.heap.size + 1]? = some (.cells #[.int .i64 ((b.e3 : Nat) : Int), .int .u64 b.tm, .int .u64 b.sq, .int .u64 b.lf, .slice a6 b.py.length c6] 27 (0, 0))) => u0 u (World.grownBy.trans' hgX hu.1)
    have t3 := fun (u : World) (hu : X.grownBy u (some (w.heap.size + 1)) ∧ u.heap[w.heap.size + 1]? = some (.cells #[.int .i64 ((b.e3 : Nat) : Int), .int .u64 b.tm, .int .u64 b.sq, .int .u64 b.lf, .slice a6 b.py.length c6] 27 (0, 0))) => u3 u (World.grownBy.trans' hgX hu.1)
    have hs1 : X.grownBy X.drew (some (w.heap.size + 1)) ∧ (X.drew).heap[w.heap.size + 1]? = some (.cells #[.int .i64 ((b.e3 : Nat) : Int), .int .u64 b.tm, .int .u64 b.sq, .int .u64 b.lf, .slice a6 b.py.length c6] 27 (0, 0)) := ⟨gr_drw _, hXR⟩
    have hs2 : X.grownBy (((((X.setCell ⟨w.heap.size + 1, 0, none⟩ (.int .i64 ((b.e3 : Nat) : Int))).setCell ⟨w.heap.size + 1, 1, none⟩ (.int .u64 b.tm)).setCell ⟨w.heap.size + 1, 2, none⟩ (.int .u64 b.sq)).setCell ⟨w.heap.size + 1, 3, none⟩ (.int .u64 b.lf)).setCell ⟨w.heap.size + 1, 4, none⟩ (.slice a6 b.py.length c6)) (some (w.heap.size + 1)) ∧ ((((((X.setCell ⟨w.heap.size + 1, 0, none⟩ (.int .i64 ((b.e3 : Nat) : Int))).setCell ⟨w.heap.size + 1, 1, none⟩ (.int .u64 b.tm)).setCell ⟨w.heap.size + 1, 2, none⟩ (.int .u64 b.sq)).setCell ⟨w.heap.size + 1, 3, none⟩ (.int .u64 b.lf)).setCell ⟨w.heap.size + 1, 4, none⟩ (.slice a6 b.py.length c6))).heap[w.heap.size + 1]? = some (.cells #[.int .i64 ((b.e3 : Nat) : Int), .int .u64 b.tm, .int .u64 b.sq, .int .u64 b.lf, .slice a6 b.py.length c6] 27 (0, 0)) := ⟨gr_set5, heap_set5 hXR⟩
    have hs3 : X.grownBy (((((X.setCell ⟨w.heap.size + 1, 0, none⟩ (.int .i64 ((b.e3 : Nat) : Int))).setCell ⟨w.heap.size + 1, 1, none⟩ (.int .u64 b.tm)).setCell ⟨w.heap.size + 1, 2, none⟩ (.int .u64 b.sq)).setCell ⟨w.heap.size + 1, 3, none⟩ (.int .u64 b.lf)).setCell ⟨w.heap.size + 1, 4, none⟩ (.slice a6 b.py.length c6)).drew (some (w.heap.size + 1)) ∧ ((((((X.setCell ⟨w.heap.size + 1, 0, none⟩ (.int .i64 ((b.e3 : Nat) : Int))).setCell ⟨w.heap.size + 1, 1, none⟩ (.int .u64 b.tm)).setCell ⟨w.heap.size + 1, 2, none⟩ (.int .u64 b.sq)).setCell ⟨w.heap.size + 1, 3, none⟩ (.int .u64 b.lf)).setCell ⟨w.heap.size + 1, 4, none⟩ (.slice a6 b.py.length c6)).drew).heap[w.heap.size + 1]? = some (.cells #[.int .i64 ((b.e3 : Nat) : Int), .int .u64 b.tm, .int .u64 b.sq, .int .u64 b.lf, .slice a6 b.py.length c6] 27 (0, 0)) := ⟨gr_below gr_set5 (Below.refl _ _).drew, heap_set5 hXR⟩
    have hself2 : X.grownBy X (some (w.heap.size + 1)) ∧ X.heap[w.heap.size + 1]? = some (.cells #[.int .i64 ((b.e3 : Nat) : Int), .int .u64 b.tm, .int .u64 b.sq, .int .u64 b.lf, .slice a6 b.py.length c6] 27 (0, 0)) := ⟨World.grownBy.refl _ _, hXR⟩
    have ha2 := and2 b.fl HG.out.fl
    obtain ⟨q, hq⟩ : ∃ q, q = b.fl / 2 % 2 := ⟨_, rfl⟩
    rw [← hq] at ha2
    have HNW : Hid (decide (b.fl / 2 % 2 = 1) = decide (q = 1)) := by rw [hq]; rfl
    have hq2 : q = 0 ∨ q = 1 := by omega
    clear hq
    rcases hq2 with rfl | rfl
    all_goals
      go_wp2_with fail
      refine wp_region_noPanic ?_
      refine wp_region_held_drew (S := (fun u => X.grownBy u (some (w.heap.size + 1)) ∧ u.heap[w.heap.size + 1]? = some (.cells #[.int .i64 ((b.e3 : Nat) : Int), .int .u64 b.tm, .int .u64 b.sq, .int .u64 b.lf, .slice a6 b.py.length c6] 27 (0, 0)))) (by kernel_rfl) (by with_reducible assumption) (fun hHeld => ?_)
      refine take_at (i := 0) 29 (v := ?_) rfl rfl (by kernel_rfl) (by kernel_rfl) (by kernel_rfl) (fun _ _ _ h => h) (by rfl) ?_ hHeld ?_
      rotate_left
      · (intro w hSw; (try dsimp only at hSw); go_simp; try with_reducible rfl)
      simp only [Act.put, List.setIfInBounds_toArray, List.set_cons_zero, List.set_cons_succ]
      refine take_at (i := 1) 30 (v := ?_) rfl rfl (by kernel_rfl) (by kernel_rfl) (by kernel_rfl) (fun _ _ _ h => h) (by rfl) ?_ hHeld ?_
      rotate_left
      · (intro w hSw; (try dsimp only at hSw); go_simp; try with_reducible rfl)
      simp only [Act.put, List.setIfInBounds_toArray, List.set_cons_zero, List.set_cons_succ]
      refine take_at (i := 2) 31 (v := ?_) rfl rfl (by kernel_rfl) (by kernel_rfl) (by kernel_rfl) (fun _ _ _ h => h) (by rfl) ?_ hHeld ?_
      rotate_left
      · (intro w hSw; (try dsimp only at hSw); go_simp; try with_reducible rfl)
      simp only [Act.put, List.setIfInBounds_toArray, List.set_cons_zero, List.set_cons_succ]
      refine take_at (i := 3) 32 (v := ?_) rfl rfl (by kernel_rfl) (by kernel_rfl) (by kernel_rfl) (fun _ _ _ h => h) (by rfl) ?_ hHeld ?_
      rotate_left
      · (intro w hSw; (try dsimp only at hSw); go_simp; try with_reducible rfl)
      simp only [Act.put, List.setIfInBounds_toArray, List.set_cons_zero, List.set_cons_succ]
      refine take_at (i := 4) 33 (v := ?_) rfl rfl (by kernel_rfl) (by kernel_rfl) (by kernel_rfl) (fun _ _ _ h => h) (by rfl) ?_ hHeld ?_
      rotate_left
      · (intro w hSw; (try dsimp only at hSw); go_simp; try with_reducible rfl)
      simp only [Act.put, List.setIfInBounds_toArray, List.set_cons_zero, List.set_cons_succ]
      refine take_at (i := 5) 34 (v := ?_) rfl rfl (by kernel_rfl) (by kernel_rfl) (by kernel_rfl) (fun _ _ _ h => h) (by rfl) ?_ hHeld ?_
      rotate_left
      · (intro w hSw; (try dsimp only at hSw); go_simp; try with_reducible rfl)
      simp only [Act.put, List.setIfInBounds_toArray, List.set_cons_zero, List.set_cons_succ]
      refine take_at (i := 6) 35 (v := ?_) rfl rfl (by kernel_rfl) (by kernel_rfl) (by kernel_rfl) (fun _ _ _ h => h) (by rfl) ?_ hHeld ?_
      rotate_left
      · (intro w hSw; (try dsimp only at hSw); go_simp; try with_reducible rfl)
      simp only [Act.put, List.setIfInBounds_toArray, List.set_cons_zero, List.set_cons_succ]
      refine take_at (i := 7) 36 (v := ?_) rfl rfl (by kernel_rfl) (by kernel_rfl) (by kernel_rfl) (fun _ _ _ h => h) (by rfl) ?_ hHeld ?_
      rotate_left
      · (intro w hSw; (try dsimp only at hSw); go_simp; try with_reducible rfl)
      simp only [Act.put, List.setIfInBounds_toArray, List.set_cons_zero, List.set_cons_succ]
      refine run_at (i := 8) rfl (by kernel_rfl) (by rfl) (fun K hK => ?_)
      simp only [List.getElem_toArray, List.getElem_cons_zero, List.getElem_cons_succ]
      go_simp
      go_wp2_with fail
      refine hK.out _ _ (by with_reducible assumption) ?_
      clear hK K
      intro hHeld2
      clear hHeld
      have hHeld := hHeld2
      clear hHeld2
      try simp only [Act.put, List.setIfInBounds_toArray, List.set_cons_zero, List.set_cons_succ]
      refine take_at (i := 9) 3 (v := ?_) rfl rfl (by kernel_rfl) (by kernel_rfl) (by kernel_rfl) (fun _ _ _ h => h) (by rfl) ?_ hHeld ?_
      rotate_left
      · (intro w hSw; (try dsimp only at hSw); go_simp; try with_reducible rfl)
      simp only [Act.put, List.setIfInBounds_toArray, List.set_cons_zero, List.set_cons_succ]
      refine take_at (i := 10) 4 (v := ?_) rfl rfl (by kernel_rfl) (by kernel_rfl) (by kernel_rfl) (fun _ _ _ h => h) (by rfl) ?_ hHeld ?_
      rotate_left
      · (intro w hSw; (try dsimp only at hSw); go_simp; try with_reducible rfl)
      simp only [Act.put, List.setIfInBounds_toArray, List.set_cons_zero, List.set_cons_succ]
      refine take_at (i := 11) 5 (v := ?_) rfl rfl (by kernel_rfl) (by kernel_rfl) (by kernel_rfl) (fun _ _ _ h => h) (by rfl) ?_ hHeld ?_
      rotate_left
      · (intro w hSw; (try dsimp only at hSw); go_simp; try with_reducible rfl)
      simp only [Act.put, List.setIfInBounds_toArray, List.set_cons_zero, List.set_cons_succ]
      refine wpAnyH_done (by kernel_rfl) ?_ _
      refine NoPanic.normal ?_
      all_goals go_wp2
      all_goals refine bodyPost_ret (results_c4 rfl _ _ (w.heap.size + 1) 27 _ (0, 0) _ rfl hs3.2 Try.underlying27 rfl (by kernel_rfl)) rfl ?_
      all_goals exact ⟨⟨(b.e3 : Nat), b.tm, b.sq, b.lf, a6, c6, b.py, b.e2, decide (b.fl / 2 % 2 = 1), 0, by rw [HNW.out]; rfl, .inr (.inr ⟨HV.out, hC, rfl, rfl, rfl, rfl, rfl, rfl, rfl, rfl⟩), HRX.out.grown hs3.1 HAB.out⟩, hbX.grown hs3.1 hbX.size (fun q hq => by cases hq; omega)⟩
end Go.Proofs.Ytdpkommmkcmifab
