import Derived.Test.YtkdgjfjcpgiokaaGreatIxId
namespace Go.Proofs.YtkdgjfjcpgiokaaGreat
set_option linter.unusedVariables false
set_option linter.unusedSimpArgs false
open Go.RowKit Go.Maps
abbrev tUn : TypeId := 27
abbrev unC (k e se pa i c : Int) (da : Option Addr) (dn dc : Nat) (cd : Int) (ga : Option Addr) (gn gc : Nat) : Array Value := #[.int .i64 k, .int .u64 e, .int .u64 se, .int .i64 pa, .int .i64 i, .int .i64 c, .slice da dn dc, .int .i64 cd, .slice ga gn gc]
def okE (e : Int) : Bool := decide (e = 0 ∨ e = 3)
/-- the boxes of boxWith's parameters -/
theorem bwBox (w : World) (s : Ss) (k e se pa i c : Int) (da : Option Addr) (dn dc : Nat) (cd : Int) (ga : Option Addr) (gn gc : Nat) : ∀ u, Below (w.heap.size + 2) ((w.alloc (.cells #[.int .u64 (s.1 : Int), .int .u64 (s.2 : Int)] tSs)).alloc (.cells (unC k e se pa i c da dn dc cd ga gn gc) tUn)) u →
    u.cell? ⟨w.heap.size, 0, none⟩ = some (.int .u64 (s.1 : Int)) ∧ u.cell? ⟨w.heap.size, 1, none⟩ = some (.int .u64 (s.2 : Int)) ∧ u.cell? ⟨w.heap.size + 1, 4, none⟩ = some (.int .i64 i) ∧ u.cell? ⟨w.heap.size + 1, 5, none⟩ = some (.int .i64 c) ∧ u.cell? ⟨w.heap.size + 1, 6, none⟩ = some (.slice da dn dc) ∧ Below w.heap.size w u := fun u hu => by
  have h9 : u.heap[w.heap.size]? = some (.cells #[.int .u64 (s.1 : Int), .int .u64 (s.2 : Int)] tSs (0, 0)) := (hu.block w.heap.size (by omega)).trans ((Below.heap_alloc _ _ _ (by simp)).trans (heap_alloc_new w _))
  have h8 : u.heap[w.heap.size + 1]? = some (.cells (unC k e se pa i c da dn dc cd ga gn gc) tUn (0, 0)) := by
    refine (hu.block (w.heap.size + 1) (by omega)).trans ?_
    have h7 := heap_alloc_new (w.alloc (.cells #[.int .u64 (s.1 : Int), .int .u64 (s.2 : Int)] tSs)) (.cells (unC k e se pa i c da dn dc cd ga gn gc) tUn)
    rw [World.size_alloc] at h7
    exact h7
  exact ⟨by rw [cell_of_row _ _ _ _ _ _ h9]; rfl, by rw [cell_of_row _ _ _ _ _ _ h9]; rfl, by rw [cell_of_row _ _ _ _ _ _ h8]; rfl, by rw [cell_of_row _ _ _ _ _ _ h8]; rfl, by rw [cell_of_row _ _ _ _ _ _ h8]; rfl, (al (al (Below.refl w.heap.size w) _) _).trans (hu.mono (by omega))⟩
section
variable {w w' : World} {p m1 m2 T1 T2 : Nat} {I : Ib} {E : List (Ss × Bg)} {G : List (Ss × (Int × Nat))}
theorem lkE {s : Ss} {b : Bg} (hb : lk E s = some b) : lk (mp Bg.qt E) s = some (b.q, b.t) := by rw [lk_mp, hb]; rfl
theorem lkEn {s : Ss} (hb : lk E s = none) : lk (mp Bg.qt E) s = none := by rw [lk_mp, hb]; rfl
set_option maxRecDepth 20000
set_option maxHeartbeats 1600000
theorem bw_mis (h : Ibx none w p m1 m2 T1 T2 I E G) (s : Ss) (hs : inS s) (k e se pa i : Int) (c : Nat) (da : Option Addr) (dn dc : Nat) (cd : Int) (ga : Option Addr) (gn gc : Nat) (b : Bg) (hb : lk E s = some b) (hc : c ≠ b.S.length) :
    Calls Tryz.prog 38 #[.pointer (some ⟨p, 0, none⟩), sv s, .agg (unC k e se pa i (c : Int) da dn dc cd ga gn gc)] w fun e w' => e = .returned (.tuple #[.pointer none, .bool false]) ∧ Below w.heap.size w w' := by
  obtain ⟨w2, hw2⟩ : ∃ w2, w2 = (w.alloc (.cells #[.int .u64 (s.1 : Int), .int .u64 (s.2 : Int)] tSs)).alloc (.cells (unC k e se pa i (c : Int) da dn dc cd ga gn gc) tUn) := ⟨_, rfl⟩
  have hbx := bwBox w s k e se pa i (c : Int) da dn dc cd ga gn gc
  rw [← hw2] at hbx
  have hz2 : w2.heap.size = w.heap.size + 2 := by rw [hw2]; simp
  have hpl : p < w.heap.size := h.lt (.inl rfl)
  have HGET : Hid (∀ u, Below w.heap.size w u → Calls _ _ _ u _) := fun u hu => getB_in (o := 1) (p := p) ((h.below hu).cell.2.2.2.1) (h.below hu).r1 hs (lkE hb)
  have HI : Hid _ := h
  have HW2 : Hid (w2 = _) := hw2
  have HZ2 : Hid _ := hz2
  have HBX : Hid _ := h.bx _ (lk_mem hb) (by simp)
  have hne : (((b.S.length : Nat) : Int) != (c : Int)) = true := by simp; omega
  obtain ⟨N, hN⟩ : ∃ N, N = b.S.length := ⟨_, rfl⟩
  have HN : Hid _ := hN
  rw [← hN] at hne
  clear hN
  clear h hw2 hz2
  go_enter Tryz.func38, Tryz.ntmps38
  go_wp2
  rw [← HW2.out]
  refine wp_region_noPanic ?_
  refine wp_region_held_drew (S := (fun u => Below (w.heap.size + 2) w2 u)) (by kernel_rfl) (by first | exact Below.refl _ _ | exact (Below.refl _ _).drew | exact HB3.out | assumption) (fun hHeld => ?_)
  refine take_at (i := 0) 12 (v := ?_) rfl rfl (by kernel_rfl) (by kernel_rfl) (by kernel_rfl) (fun _ _ _ h => h) (by rfl) ?_ hHeld ?_
  rotate_left
  · (intro w hSw; (try dsimp only at hSw); go_simp; try with_reducible rfl)
  simp only [Act.put, List.setIfInBounds_toArray, List.set_cons_zero, List.set_cons_succ]
  refine take_at (i := 1) 13 (v := ?_) rfl rfl (by kernel_rfl) (by kernel_rfl) (by kernel_rfl) (fun _ _ _ h => h) (by rfl) ?_ hHeld ?_
  rotate_left
  · (intro w hSw; (try dsimp only at hSw); go_simp; try with_reducible rfl)
  simp only [Act.put, List.setIfInBounds_toArray, List.set_cons_zero, List.set_cons_succ]
  refine take_at (i := 2) 14 (v := ?_) rfl rfl (by kernel_rfl) (by kernel_rfl) (by kernel_rfl) (fun _ _ _ h => h) (by rfl) ?_ hHeld ?_
  rotate_left
  · (intro w hSw; (try dsimp only at hSw); go_simp; try with_reducible rfl)
  simp only [Act.put, List.setIfInBounds_toArray, List.set_cons_zero, List.set_cons_succ]
  refine take_at (i := 3) 15 (v := ?_) rfl rfl (by kernel_rfl) (by kernel_rfl) (by kernel_rfl) (fun _ _ _ h => h) (by rfl) ?_ hHeld ?_
  rotate_left
  · (intro w hSw; (try dsimp only at hSw); go_simp; try with_reducible rfl)
  simp only [Act.put, List.setIfInBounds_toArray, List.set_cons_zero, List.set_cons_succ]
  refine run_at (i := 4) rfl (by kernel_rfl) (by rfl) (fun K hK => ?_)
  simp only [List.getElem_toArray, List.getElem_cons_zero, List.getElem_cons_succ]
  go_simp
  (go_at_call 50; refine Calls.mono (HGET.out _ (hbx _ (Below.refl _ _).drew).2.2.2.2.2) ?_; rintro e w3 ⟨rfl, hb3⟩; have HB3 : Hid (Below (w.heap.size + 2) w2 w3) := ((Below.refl (w.heap.size + 2) w2).drew).trans (hb3.mono (by have := HZ2.out; show w.heap.size + 2 ≤ w2.heap.size; omega)); clear hb3)
  go_wp2_with fail
  refine hK.out _ _ (by first | exact Below.refl _ _ | exact (Below.refl _ _).drew | exact HB3.out | assumption) ?_
  clear hK K
  intro hHeld2
  clear hHeld
  have hHeld := hHeld2
  clear hHeld2
  try simp only [Act.put, List.setIfInBounds_toArray, List.set_cons_zero, List.set_cons_succ]
  refine take_at (i := 5) 11 (v := ?_) rfl rfl (by kernel_rfl) (by kernel_rfl) (by kernel_rfl) (fun _ _ _ h => h) (by rfl) ?_ hHeld ?_
  rotate_left
  · (intro w hSw; (try dsimp only at hSw); go_simp; try with_reducible rfl)
  simp only [Act.put, List.setIfInBounds_toArray, List.set_cons_zero, List.set_cons_succ]
  refine take_at (i := 6) 17 (v := ?_) rfl rfl (by kernel_rfl) (by kernel_rfl) (by kernel_rfl) (fun _ _ _ h => h) (by rfl) ?_ hHeld ?_
  rotate_left
  · (intro w hSw; (try dsimp only at hSw); go_simp; try with_reducible rfl)
  simp only [Act.put, List.setIfInBounds_toArray, List.set_cons_zero, List.set_cons_succ]
  refine take_at (i := 7) 18 (v := ?_) rfl rfl (by kernel_rfl) (by kernel_rfl) (by kernel_rfl) (fun _ _ _ h => h) (by rfl) ?_ hHeld ?_
  rotate_left
  · (intro w hSw; (try dsimp only at hSw); go_simp; try with_reducible rfl)
  simp only [Act.put, List.setIfInBounds_toArray, List.set_cons_zero, List.set_cons_succ]
  refine take_at (i := 8) 8 (v := ?_) rfl rfl (by kernel_rfl) (by kernel_rfl) (by kernel_rfl) (fun _ _ _ h => h) (by rfl) ?_ hHeld ?_
  rotate_left
  · (intro w hSw; (try dsimp only at hSw); go_simp; try with_reducible rfl)
  simp only [Act.put, List.setIfInBounds_toArray, List.set_cons_zero, List.set_cons_succ]
  refine take_at (i := 9) 9 (v := ?_) rfl rfl (by kernel_rfl) (by kernel_rfl) (by kernel_rfl) (fun _ _ _ h => h) (by rfl) ?_ hHeld ?_
  rotate_left
  · (intro w hSw; (try dsimp only at hSw); go_simp; try with_reducible rfl)
  simp only [Act.put, List.setIfInBounds_toArray, List.set_cons_zero, List.set_cons_succ]
  refine wpAnyH_done (by kernel_rfl) ?_ _
  refine NoPanic.normal ?_
  go_wp2
  have HCNT : Hid (Calls _ _ _ w3.drew _) := pcount (HBX.out.below (w' := w3.drew) (hbx w3 HB3.out).2.2.2.2.2.drew)
  rw [show cntS (some b.S) = N from HN.out.symm] at HCNT
  refine wp_region_noPanic ?_
  refine wp_region_held_drew (S := (fun u => Below (w.heap.size + 2) w2 u)) (by kernel_rfl) (by first | exact HB3.out.drew | exact HB4.out.drew | assumption) (fun hHeld => ?_)
  refine take_at (i := 0) 27 (v := ?_) rfl rfl (by kernel_rfl) (by kernel_rfl) (by kernel_rfl) (fun _ _ _ h => h) (by rfl) ?_ hHeld ?_
  rotate_left
  · (intro w hSw; (try dsimp only at hSw); go_simp; try with_reducible rfl)
  simp only [Act.put, List.setIfInBounds_toArray, List.set_cons_zero, List.set_cons_succ]
  refine take_at (i := 2) 29 (v := ?_) rfl rfl (by kernel_rfl) (by kernel_rfl) (by kernel_rfl) (fun _ _ _ h => h) (by rfl) ?_ hHeld ?_
  rotate_left
  · (intro w hSw; (try dsimp only at hSw); go_simp; try with_reducible rfl)
  simp only [Act.put, List.setIfInBounds_toArray, List.set_cons_zero, List.set_cons_succ]
  refine take_at (i := 3) 30 (v := ?_) rfl rfl (by kernel_rfl) (by kernel_rfl) (by kernel_rfl) (fun _ _ _ h => h) (by rfl) ?_ hHeld ?_
  rotate_left
  · (intro w hSw; (try dsimp only at hSw); go_simp; try with_reducible rfl)
  simp only [Act.put, List.setIfInBounds_toArray, List.set_cons_zero, List.set_cons_succ]
  refine run_at (i := 1) rfl (by kernel_rfl) (by rfl) (fun K hK => ?_)
  simp only [List.getElem_toArray, List.getElem_cons_zero, List.getElem_cons_succ]
  go_simp
  (go_at_call 52; refine Calls.mono HCNT.out ?_; rintro e u4 ⟨rfl, hq4⟩; have hq4 := hq4.symm; subst hq4)
  go_wp2_with fail
  refine hK.out _ _ (by first | exact HB3.out.drew | exact HB4.out.drew | assumption) ?_
  clear hK K
  intro hHeld2
  clear hHeld
  have hHeld := hHeld2
  clear hHeld2
  try simp only [Act.put, List.setIfInBounds_toArray, List.set_cons_zero, List.set_cons_succ]
  refine take_at (i := 4) 31 (v := ?_) rfl rfl (by kernel_rfl) (by kernel_rfl) (by kernel_rfl) (fun _ _ _ h => h) (by rfl) ?_ hHeld ?_
  rotate_left
  · (intro w hSw; (try dsimp only at hSw); go_simp; try with_reducible rfl)
  simp only [Act.put, List.setIfInBounds_toArray, List.set_cons_zero, List.set_cons_succ]
  refine wpAnyH_done (by kernel_rfl) ?_ _
  refine NoPanic.normal ?_
  go_wp2
  go_ret2
  exact ⟨rfl, (hbx w3 HB3.out).2.2.2.2.2.drew⟩
theorem bw_open (h : Ibx none w p m1 m2 T1 T2 I E G) (s : Ss) (hs : inS s) (k e se pa i : Int) (c : Nat) (da : Option Addr) (dn dc : Nat) (cd : Int) (ga : Option Addr) (gn gc : Nat) (b : Bg) (hb : lk E s = some b) (hc : c = b.S.length) (xs : Seg) (hn : dn = xs.length) (hx : Rd w da xs) (hnil : da = none → dc = 0) (hl : dn ≤ 140737488355328) :
    Calls Tryz.prog 38 #[.pointer (some ⟨p, 0, none⟩), sv s, .agg (unC k e se pa i (c : Int) da dn dc cd ga gn gc)] w fun e w' => ∃ F' : Nat → Prop, e = .returned (.tuple #[.pointer (some ⟨b.q, 0, none⟩), .bool (okE (putE (some b.S) i xs))]) ∧ PBx w' (some ⟨b.q, 0, none⟩) (putS (some b.S) i xs) F' ∧ (∀ b', F' b' → b.F b' ∨ w.heap.size ≤ b') ∧ Chg b.F w w' := by
  obtain ⟨w2, hw2⟩ : ∃ w2, w2 = (w.alloc (.cells #[.int .u64 (s.1 : Int), .int .u64 (s.2 : Int)] tSs)).alloc (.cells (unC k e se pa i (c : Int) da dn dc cd ga gn gc) tUn) := ⟨_, rfl⟩
  have hbx := bwBox w s k e se pa i (c : Int) da dn dc cd ga gn gc
  rw [← hw2] at hbx
  have hz2 : w2.heap.size = w.heap.size + 2 := by rw [hw2]; simp
  have hpl : p < w.heap.size := h.lt (.inl rfl)
  have HGET : Hid (∀ u, Below w.heap.size w u → Calls _ _ _ u _) := fun u hu => getB_in (o := 1) (p := p) ((h.below hu).cell.2.2.2.1) (h.below hu).r1 hs (lkE hb)
  have HI : Hid _ := h
  have HW2 : Hid (w2 = _) := hw2
  have HZ2 : Hid _ := hz2
  have HBX : Hid _ := h.bx _ (lk_mem hb) (by simp)
  have hne : ((c : Int) != (c : Int)) = false := by simp
  have HCN : Hid (cntS (some b.S) = c) := hc.symm
  obtain ⟨Er, hEr⟩ : ∃ Er, Er = putE (some b.S) i xs := ⟨_, rfl⟩
  rw [← hEr]
  have HER : Hid _ := hEr
  clear hEr
  have HX : Hid _ := hx
  have HNL : Hid _ := hnil
  have HN : Hid _ := hn
  clear hc hx hnil hn
  clear h hw2 hz2
  go_enter Tryz.func38, Tryz.ntmps38
  go_wp2
  rw [← HW2.out]
  refine wp_region_noPanic ?_
  refine wp_region_held_drew (S := (fun u => Below (w.heap.size + 2) w2 u)) (by kernel_rfl) (by first | exact Below.refl _ _ | exact (Below.refl _ _).drew | exact HB3.out | assumption) (fun hHeld => ?_)
  refine take_at (i := 0) 12 (v := ?_) rfl rfl (by kernel_rfl) (by kernel_rfl) (by kernel_rfl) (fun _ _ _ h => h) (by rfl) ?_ hHeld ?_
  rotate_left
  · (intro w hSw; (try dsimp only at hSw); go_simp; try with_reducible rfl)
  simp only [Act.put, List.setIfInBounds_toArray, List.set_cons_zero, List.set_cons_succ]
  refine take_at (i := 1) 13 (v := ?_) rfl rfl (by kernel_rfl) (by kernel_rfl) (by kernel_rfl) (fun _ _ _ h => h) (by rfl) ?_ hHeld ?_
  rotate_left
  · (intro w hSw; (try dsimp only at hSw); go_simp; try with_reducible rfl)
  simp only [Act.put, List.setIfInBounds_toArray, List.set_cons_zero, List.set_cons_succ]
  refine take_at (i := 2) 14 (v := ?_) rfl rfl (by kernel_rfl) (by kernel_rfl) (by kernel_rfl) (fun _ _ _ h => h) (by rfl) ?_ hHeld ?_
  rotate_left
  · (intro w hSw; (try dsimp only at hSw); go_simp; try with_reducible rfl)
  simp only [Act.put, List.setIfInBounds_toArray, List.set_cons_zero, List.set_cons_succ]
  refine take_at (i := 3) 15 (v := ?_) rfl rfl (by kernel_rfl) (by kernel_rfl) (by kernel_rfl) (fun _ _ _ h => h) (by rfl) ?_ hHeld ?_
  rotate_left
  · (intro w hSw; (try dsimp only at hSw); go_simp; try with_reducible rfl)
  simp only [Act.put, List.setIfInBounds_toArray, List.set_cons_zero, List.set_cons_succ]
  refine run_at (i := 4) rfl (by kernel_rfl) (by rfl) (fun K hK => ?_)
  simp only [List.getElem_toArray, List.getElem_cons_zero, List.getElem_cons_succ]
  go_simp
  (go_at_call 50; refine Calls.mono (HGET.out _ (hbx _ (Below.refl _ _).drew).2.2.2.2.2) ?_; rintro e w3 ⟨rfl, hb3⟩; have HB3 : Hid (Below (w.heap.size + 2) w2 w3) := ((Below.refl (w.heap.size + 2) w2).drew).trans (hb3.mono (by have := HZ2.out; show w.heap.size + 2 ≤ w2.heap.size; omega)); clear hb3)
  go_wp2_with fail
  refine hK.out _ _ (by first | exact Below.refl _ _ | exact (Below.refl _ _).drew | exact HB3.out | assumption) ?_
  clear hK K
  intro hHeld2
  clear hHeld
  have hHeld := hHeld2
  clear hHeld2
  try simp only [Act.put, List.setIfInBounds_toArray, List.set_cons_zero, List.set_cons_succ]
  refine take_at (i := 5) 11 (v := ?_) rfl rfl (by kernel_rfl) (by kernel_rfl) (by kernel_rfl) (fun _ _ _ h => h) (by rfl) ?_ hHeld ?_
  rotate_left
  · (intro w hSw; (try dsimp only at hSw); go_simp; try with_reducible rfl)
  simp only [Act.put, List.setIfInBounds_toArray, List.set_cons_zero, List.set_cons_succ]
  refine take_at (i := 6) 17 (v := ?_) rfl rfl (by kernel_rfl) (by kernel_rfl) (by kernel_rfl) (fun _ _ _ h => h) (by rfl) ?_ hHeld ?_
  rotate_left
  · (intro w hSw; (try dsimp only at hSw); go_simp; try with_reducible rfl)
  simp only [Act.put, List.setIfInBounds_toArray, List.set_cons_zero, List.set_cons_succ]
  refine take_at (i := 7) 18 (v := ?_) rfl rfl (by kernel_rfl) (by kernel_rfl) (by kernel_rfl) (fun _ _ _ h => h) (by rfl) ?_ hHeld ?_
  rotate_left
  · (intro w hSw; (try dsimp only at hSw); go_simp; try with_reducible rfl)
  simp only [Act.put, List.setIfInBounds_toArray, List.set_cons_zero, List.set_cons_succ]
  refine take_at (i := 8) 8 (v := ?_) rfl rfl (by kernel_rfl) (by kernel_rfl) (by kernel_rfl) (fun _ _ _ h => h) (by rfl) ?_ hHeld ?_
  rotate_left
  · (intro w hSw; (try dsimp only at hSw); go_simp; try with_reducible rfl)
  simp only [Act.put, List.setIfInBounds_toArray, List.set_cons_zero, List.set_cons_succ]
  refine take_at (i := 9) 9 (v := ?_) rfl rfl (by kernel_rfl) (by kernel_rfl) (by kernel_rfl) (fun _ _ _ h => h) (by rfl) ?_ hHeld ?_
  rotate_left
  · (intro w hSw; (try dsimp only at hSw); go_simp; try with_reducible rfl)
  simp only [Act.put, List.setIfInBounds_toArray, List.set_cons_zero, List.set_cons_succ]
  refine wpAnyH_done (by kernel_rfl) ?_ _
  refine NoPanic.normal ?_
  go_wp2
  have HCNT : Hid (Calls _ _ _ w3.drew _) := pcount (HBX.out.below (w' := w3.drew) (hbx w3 HB3.out).2.2.2.2.2.drew)
  rw [HCN.out] at HCNT
  refine wp_region_noPanic ?_
  refine wp_region_held_drew (S := (fun u => Below (w.heap.size + 2) w2 u)) (by kernel_rfl) (by first | exact HB3.out.drew | exact HB4.out.drew | assumption) (fun hHeld => ?_)
  refine take_at (i := 0) 27 (v := ?_) rfl rfl (by kernel_rfl) (by kernel_rfl) (by kernel_rfl) (fun _ _ _ h => h) (by rfl) ?_ hHeld ?_
  rotate_left
  · (intro w hSw; (try dsimp only at hSw); go_simp; try with_reducible rfl)
  simp only [Act.put, List.setIfInBounds_toArray, List.set_cons_zero, List.set_cons_succ]
  refine take_at (i := 2) 29 (v := ?_) rfl rfl (by kernel_rfl) (by kernel_rfl) (by kernel_rfl) (fun _ _ _ h => h) (by rfl) ?_ hHeld ?_
  rotate_left
  · (intro w hSw; (try dsimp only at hSw); go_simp; try with_reducible rfl)
  simp only [Act.put, List.setIfInBounds_toArray, List.set_cons_zero, List.set_cons_succ]
  refine take_at (i := 3) 30 (v := ?_) rfl rfl (by kernel_rfl) (by kernel_rfl) (by kernel_rfl) (fun _ _ _ h => h) (by rfl) ?_ hHeld ?_
  rotate_left
  · (intro w hSw; (try dsimp only at hSw); go_simp; try with_reducible rfl)
  simp only [Act.put, List.setIfInBounds_toArray, List.set_cons_zero, List.set_cons_succ]
  refine run_at (i := 1) rfl (by kernel_rfl) (by rfl) (fun K hK => ?_)
  simp only [List.getElem_toArray, List.getElem_cons_zero, List.getElem_cons_succ]
  go_simp
  (go_at_call 52; refine Calls.mono HCNT.out ?_; rintro e u4 ⟨rfl, hq4⟩; have hq4 := hq4.symm; subst hq4)
  go_wp2_with fail
  refine hK.out _ _ (by first | exact HB3.out.drew | exact HB4.out.drew | assumption) ?_
  clear hK K
  intro hHeld2
  clear hHeld
  have hHeld := hHeld2
  clear hHeld2
  try simp only [Act.put, List.setIfInBounds_toArray, List.set_cons_zero, List.set_cons_succ]
  refine take_at (i := 4) 31 (v := ?_) rfl rfl (by kernel_rfl) (by kernel_rfl) (by kernel_rfl) (fun _ _ _ h => h) (by rfl) ?_ hHeld ?_
  rotate_left
  · (intro w hSw; (try dsimp only at hSw); go_simp; try with_reducible rfl)
  simp only [Act.put, List.setIfInBounds_toArray, List.set_cons_zero, List.set_cons_succ]
  refine wpAnyH_done (by kernel_rfl) ?_ _
  refine NoPanic.normal ?_
  have hb4 : Below w.heap.size w w3.drew := (hbx w3 HB3.out).2.2.2.2.2.drew
  have HPUT : Hid (Calls _ _ _ w3.drew _) := pput (HBX.out.below (w' := w3.drew) hb4) i da dn dc xs HN.out (Rd.below HX.out hb4) HNL.out hl
  have HB4 : Hid _ := hb4
  clear hb4
  rw [← HER.out] at HPUT
  go_wp2_with fail
  refine Calls.mono HPUT.out ?_
  rintro e w5 ⟨rfl, hL⟩
  obtain ⟨⟨F', hF1, hF2⟩, hch⟩ := hL
  have HPF : Hid (PBx w5 (some ⟨b.q, 0, none⟩) (putS (some b.S) i xs) F' ∧ (∀ b', F' b' → b.F b' ∨ w.heap.size ≤ b') ∧ Chg b.F w w5) := ⟨hF1, fun b' h9 => (hF2 b' h9).imp id (fun h8 => Nat.le_trans HB4.out.size h8), (Chg.of_below HB4.out).trans hch (fun b' h9 => .inl h9)⟩
  clear hF1 hF2 hch
  by_cases e0 : Er = 0
  · have q0 : (Er == 0) = true := by simp [e0]
    have HOK : Hid (okE Er = true) := by unfold Hid okE; simp [e0]
    go_wp2
    go_ret2
    exact ⟨F', by rw [HOK.out]; rfl, HPF.out⟩
  · have q0 : (Er == 0) = false := by simp [e0]
    by_cases e3 : Er = 3
    · have q3 : (Er == 3) = true := by simp [e3]
      have HOK : Hid (okE Er = true) := by unfold Hid okE; simp [e3]
      go_wp2
      go_ret2
      exact ⟨F', by rw [HOK.out]; rfl, HPF.out⟩
    · have q3 : (Er == 3) = false := by simp [e3]
      have HOK : Hid (okE Er = false) := by unfold Hid okE; simp [e0, e3]
      go_wp2
      go_ret2
      exact ⟨F', by rw [HOK.out]; rfl, HPF.out⟩
theorem bw_new (h : Ibx none w p m1 m2 T1 T2 I E G) (s : Ss) (hs : inS s) (k e se pa i : Int) (c : Nat) (da : Option Addr) (dn dc : Nat) (cd : Int) (ga : Option Addr) (gn gc : Nat) (hb : lk E s = none) (h1 : 1 ≤ c) (h64 : c ≤ 64) (xs : Seg) (hn : dn = xs.length) (hx : Rd w da xs) (hnil : da = none → dc = 0) (hl : dn ≤ 140737488355328) :
    Calls Tryz.prog 38 #[.pointer (some ⟨p, 0, none⟩), sv s, .agg (unC k e se pa i (c : Int) da dn dc cd ga gn gc)] w fun e w' => ∃ (q : Nat) (F' : Nat → Prop), e = .returned (.tuple #[.pointer (some ⟨q, 0, none⟩), .bool (okE (putE (some (List.replicate c [])) i xs))]) ∧ PBx w' (some ⟨q, 0, none⟩) (putS (some (List.replicate c [])) i xs) F' ∧ (∀ b', F' b' → w.heap.size ≤ b') ∧ Below w.heap.size w w' := by
  obtain ⟨w2, hw2⟩ : ∃ w2, w2 = (w.alloc (.cells #[.int .u64 (s.1 : Int), .int .u64 (s.2 : Int)] tSs)).alloc (.cells (unC k e se pa i (c : Int) da dn dc cd ga gn gc) tUn) := ⟨_, rfl⟩
  have hbx := bwBox w s k e se pa i (c : Int) da dn dc cd ga gn gc
  rw [← hw2] at hbx
  have hz2 : w2.heap.size = w.heap.size + 2 := by rw [hw2]; simp
  have hpl : p < w.heap.size := h.lt (.inl rfl)
  have HGET : Hid (∀ u, Below w.heap.size w u → Calls _ _ _ u _) := fun u hu => getB_no (o := 1) (p := p) ((h.below hu).cell.2.2.2.1) (h.below hu).r1 hs (lkEn hb)
  have HI : Hid _ := h
  have HW2 : Hid (w2 = _) := hw2
  have HZ2 : Hid _ := hz2
  have hne : ((c : Int) != (c : Int)) = false := by simp
  have HCN : Hid (cntS (some (List.replicate c ([] : Seg))) = c) := List.length_replicate
  obtain ⟨Er, hEr⟩ : ∃ Er, Er = putE (some (List.replicate c [])) i xs := ⟨_, rfl⟩
  rw [← hEr]
  have HER : Hid _ := hEr
  clear hEr
  have HX : Hid _ := hx
  have HNL : Hid _ := hnil
  have HN : Hid _ := hn
  clear hx hnil hn
  clear h hw2 hz2
  go_enter Tryz.func38, Tryz.ntmps38
  go_wp2
  rw [← HW2.out]
  refine wp_region_noPanic ?_
  refine wp_region_held_drew (S := (fun u => Below (w.heap.size + 2) w2 u)) (by kernel_rfl) (by first | exact Below.refl _ _ | exact (Below.refl _ _).drew | exact HB3.out | assumption) (fun hHeld => ?_)
  refine take_at (i := 0) 12 (v := ?_) rfl rfl (by kernel_rfl) (by kernel_rfl) (by kernel_rfl) (fun _ _ _ h => h) (by rfl) ?_ hHeld ?_
  rotate_left
  · (intro w hSw; (try dsimp only at hSw); go_simp; try with_reducible rfl)
  simp only [Act.put, List.setIfInBounds_toArray, List.set_cons_zero, List.set_cons_succ]
  refine take_at (i := 1) 13 (v := ?_) rfl rfl (by kernel_rfl) (by kernel_rfl) (by kernel_rfl) (fun _ _ _ h => h) (by rfl) ?_ hHeld ?_
  rotate_left
  · (intro w hSw; (try dsimp only at hSw); go_simp; try with_reducible rfl)
  simp only [Act.put, List.setIfInBounds_toArray, List.set_cons_zero, List.set_cons_succ]
  refine take_at (i := 2) 14 (v := ?_) rfl rfl (by kernel_rfl) (by kernel_rfl) (by kernel_rfl) (fun _ _ _ h => h) (by rfl) ?_ hHeld ?_
  rotate_left
  · (intro w hSw; (try dsimp only at hSw); go_simp; try with_reducible rfl)
  simp only [Act.put, List.setIfInBounds_toArray, List.set_cons_zero, List.set_cons_succ]
  refine take_at (i := 3) 15 (v := ?_) rfl rfl (by kernel_rfl) (by kernel_rfl) (by kernel_rfl) (fun _ _ _ h => h) (by rfl) ?_ hHeld ?_
  rotate_left
  · (intro w hSw; (try dsimp only at hSw); go_simp; try with_reducible rfl)
  simp only [Act.put, List.setIfInBounds_toArray, List.set_cons_zero, List.set_cons_succ]
  refine run_at (i := 4) rfl (by kernel_rfl) (by rfl) (fun K hK => ?_)
  simp only [List.getElem_toArray, List.getElem_cons_zero, List.getElem_cons_succ]
  go_simp
  (go_at_call 50; refine Calls.mono (HGET.out _ (hbx _ (Below.refl _ _).drew).2.2.2.2.2) ?_; rintro e w3 ⟨rfl, hb3⟩; have HB3 : Hid (Below (w.heap.size + 2) w2 w3) := ((Below.refl (w.heap.size + 2) w2).drew).trans (hb3.mono (by have := HZ2.out; show w.heap.size + 2 ≤ w2.heap.size; omega)); clear hb3)
  go_wp2_with fail
  refine hK.out _ _ (by first | exact Below.refl _ _ | exact (Below.refl _ _).drew | exact HB3.out | assumption) ?_
  clear hK K
  intro hHeld2
  clear hHeld
  have hHeld := hHeld2
  clear hHeld2
  try simp only [Act.put, List.setIfInBounds_toArray, List.set_cons_zero, List.set_cons_succ]
  refine take_at (i := 5) 11 (v := ?_) rfl rfl (by kernel_rfl) (by kernel_rfl) (by kernel_rfl) (fun _ _ _ h => h) (by rfl) ?_ hHeld ?_
  rotate_left
  · (intro w hSw; (try dsimp only at hSw); go_simp; try with_reducible rfl)
  simp only [Act.put, List.setIfInBounds_toArray, List.set_cons_zero, List.set_cons_succ]
  refine take_at (i := 6) 17 (v := ?_) rfl rfl (by kernel_rfl) (by kernel_rfl) (by kernel_rfl) (fun _ _ _ h => h) (by rfl) ?_ hHeld ?_
  rotate_left
  · (intro w hSw; (try dsimp only at hSw); go_simp; try with_reducible rfl)
  simp only [Act.put, List.setIfInBounds_toArray, List.set_cons_zero, List.set_cons_succ]
  refine take_at (i := 7) 18 (v := ?_) rfl rfl (by kernel_rfl) (by kernel_rfl) (by kernel_rfl) (fun _ _ _ h => h) (by rfl) ?_ hHeld ?_
  rotate_left
  · (intro w hSw; (try dsimp only at hSw); go_simp; try with_reducible rfl)
  simp only [Act.put, List.setIfInBounds_toArray, List.set_cons_zero, List.set_cons_succ]
  refine take_at (i := 8) 8 (v := ?_) rfl rfl (by kernel_rfl) (by kernel_rfl) (by kernel_rfl) (fun _ _ _ h => h) (by rfl) ?_ hHeld ?_
  rotate_left
  · (intro w hSw; (try dsimp only at hSw); go_simp; try with_reducible rfl)
  simp only [Act.put, List.setIfInBounds_toArray, List.set_cons_zero, List.set_cons_succ]
  refine take_at (i := 9) 9 (v := ?_) rfl rfl (by kernel_rfl) (by kernel_rfl) (by kernel_rfl) (fun _ _ _ h => h) (by rfl) ?_ hHeld ?_
  rotate_left
  · (intro w hSw; (try dsimp only at hSw); go_simp; try with_reducible rfl)
  simp only [Act.put, List.setIfInBounds_toArray, List.set_cons_zero, List.set_cons_succ]
  refine wpAnyH_done (by kernel_rfl) ?_ _
  refine NoPanic.normal ?_
  have hbb := hbx w3 HB3.out
  have HNW : Hid (Calls _ _ _ w3 _) := pnew (c : Int) w3
  rw [show newSt (c : Int) = some (List.replicate c []) from by unfold newSt; rw [if_pos (by omega)]; rfl, show newEr (c : Int) = 0 from if_pos (by omega)] at HNW
  obtain ⟨g0, g1, g2, g3, g4, g5⟩ := hbb
  go_wp2_with fail
  refine Calls.mono HNW.out ?_
  rintro e w4 ⟨pv, F0, rfl, hpn, hPB, hF0, hb4⟩
  obtain ⟨q, rfl⟩ : ∃ q, pv = some ⟨q, 0, none⟩ := by
    rcases hPB.ex with ⟨h9, -⟩ | ⟨S9, p9, V9, h9, h8, -⟩
    · cases h9
    · exact ⟨p9, h8⟩
  have HB4 : Hid (Below (w.heap.size + 2) w2 w4) := HB3.out.trans (hb4.mono (by have := HB3.out.size; have := HZ2.out; show w.heap.size + 2 ≤ w3.heap.size; omega))
  have HF0 : Hid (∀ b', F0 b' → w.heap.size ≤ b') := fun b' h9 => Nat.le_trans g5.size (hF0 b' h9)
  have HPB : Hid _ := hPB
  have HCNT : Hid (Calls _ _ _ w4.drew _) := pcount (hPB.below (w' := w4.drew) ((Below.refl _ _).drew))
  rw [HCN.out] at HCNT
  clear hpn hPB hF0 hb4 g0 g1 g2 g3 g4 g5
  go_wp2
  refine wp_region_noPanic ?_
  refine wp_region_held_drew (S := (fun u => Below (w.heap.size + 2) w2 u)) (by kernel_rfl) (by first | exact HB3.out.drew | exact HB4.out.drew | assumption) (fun hHeld => ?_)
  refine take_at (i := 0) 27 (v := ?_) rfl rfl (by kernel_rfl) (by kernel_rfl) (by kernel_rfl) (fun _ _ _ h => h) (by rfl) ?_ hHeld ?_
  rotate_left
  · (intro w hSw; (try dsimp only at hSw); go_simp; try with_reducible rfl)
  simp only [Act.put, List.setIfInBounds_toArray, List.set_cons_zero, List.set_cons_succ]
  refine take_at (i := 2) 29 (v := ?_) rfl rfl (by kernel_rfl) (by kernel_rfl) (by kernel_rfl) (fun _ _ _ h => h) (by rfl) ?_ hHeld ?_
  rotate_left
  · (intro w hSw; (try dsimp only at hSw); go_simp; try with_reducible rfl)
  simp only [Act.put, List.setIfInBounds_toArray, List.set_cons_zero, List.set_cons_succ]
  refine take_at (i := 3) 30 (v := ?_) rfl rfl (by kernel_rfl) (by kernel_rfl) (by kernel_rfl) (fun _ _ _ h => h) (by rfl) ?_ hHeld ?_
  rotate_left
  · (intro w hSw; (try dsimp only at hSw); go_simp; try with_reducible rfl)
  simp only [Act.put, List.setIfInBounds_toArray, List.set_cons_zero, List.set_cons_succ]
  refine run_at (i := 1) rfl (by kernel_rfl) (by rfl) (fun K hK => ?_)
  simp only [List.getElem_toArray, List.getElem_cons_zero, List.getElem_cons_succ]
  go_simp
  (go_at_call 52; refine Calls.mono HCNT.out ?_; rintro e u4 ⟨rfl, hq4⟩; have hq4 := hq4.symm; subst hq4)
  go_wp2_with fail
  refine hK.out _ _ (by first | exact HB3.out.drew | exact HB4.out.drew | assumption) ?_
  clear hK K
  intro hHeld2
  clear hHeld
  have hHeld := hHeld2
  clear hHeld2
  try simp only [Act.put, List.setIfInBounds_toArray, List.set_cons_zero, List.set_cons_succ]
  refine take_at (i := 4) 31 (v := ?_) rfl rfl (by kernel_rfl) (by kernel_rfl) (by kernel_rfl) (fun _ _ _ h => h) (by rfl) ?_ hHeld ?_
  rotate_left
  · (intro w hSw; (try dsimp only at hSw); go_simp; try with_reducible rfl)
  simp only [Act.put, List.setIfInBounds_toArray, List.set_cons_zero, List.set_cons_succ]
  refine wpAnyH_done (by kernel_rfl) ?_ _
  refine NoPanic.normal ?_
  have hb4 : Below w.heap.size w w4.drew := (hbx w4 HB4.out).2.2.2.2.2.drew
  have HPUT : Hid (Calls _ _ _ w4.drew _) := pput (HPB.out.below (w' := w4.drew) ((Below.refl _ _).drew)) i da dn dc xs HN.out (Rd.below HX.out hb4) HNL.out hl
  have HB5 : Hid _ := hb4
  clear hb4
  rw [← HER.out] at HPUT
  go_wp2_with fail
  refine Calls.mono HPUT.out ?_
  rintro e w5 ⟨rfl, hL⟩
  obtain ⟨⟨F', hF1, hF2⟩, hch⟩ := hL
  have HPF : Hid (PBx w5 (some ⟨q, 0, none⟩) (putS (some (List.replicate c [])) i xs) F' ∧ (∀ b', F' b' → w.heap.size ≤ b') ∧ Below w.heap.size w w5) := ⟨hF1, fun b' h9 => (hF2 b' h9).elim (HF0.out b') (fun h8 => Nat.le_trans HB5.out.size h8), HB5.out.trans (hch.below (fun b' h9 => HF0.out b' h9) HB5.out.size)⟩
  clear hF1 hF2 hch
  by_cases e0 : Er = 0
  · have q0 : (Er == 0) = true := by simp [e0]
    have HOK : Hid (okE Er = true) := by unfold Hid okE; simp [e0]
    go_wp2
    go_ret2
    exact ⟨q, F', by rw [HOK.out]; rfl, HPF.out⟩
  · have q0 : (Er == 0) = false := by simp [e0]
    by_cases e3 : Er = 3
    · have q3 : (Er == 3) = true := by simp [e3]
      have HOK : Hid (okE Er = true) := by unfold Hid okE; simp [e3]
      go_wp2
      go_ret2
      exact ⟨q, F', by rw [HOK.out]; rfl, HPF.out⟩
    · have q3 : (Er == 3) = false := by simp [e3]
      have HOK : Hid (okE Er = false) := by unfold Hid okE; simp [e0, e3]
      go_wp2
      go_ret2
      exact ⟨q, F', by rw [HOK.out]; rfl, HPF.out⟩
end
end Go.Proofs.YtkdgjfjcpgiokaaGreat
