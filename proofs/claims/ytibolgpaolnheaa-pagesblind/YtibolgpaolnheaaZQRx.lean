import Derived.Test.YtibolgpaolnheaaQJn
import Derived.Test.YtibolgpaolnheaaZQD9
namespace Go.Proofs.Ytibolgpaolnheaa.Str
set_option linter.unusedVariables false
set_option linter.unusedSimpArgs false
open Go.RowKit
variable {w w' w5 : World} {g S : Nat} {P : List (List Ent)} {v v' : Value} {vs : List Value}
theorem IdxAt.one (h : IdxAt w g S P v vs) : ∀ u ∈ vs, u.oneCell' = true := fun u hu => by
  obtain ⟨t, ht, e⟩ := List.getElem_of_mem hu
  obtain ⟨a, c, h1, -⟩ := h.pg t (by rw [← h.len]; exact ht)
  rw [List.getElem?_eq_getElem ht, e] at h1
  cases h1
  rfl
/-- what a page in a row is -/
def PgIs (w : World) (x : Option Value) (q : Option (List Ent)) : Prop := ∀ p, q = some p → ∃ a c, x = some (.slice a p.length c) ∧ p.length ≤ c ∧ (a = none → c = 0) ∧ RdE w a p
theorem IdxAt.pgs (h : IdxAt w g S P v vs) (t : Nat) : PgIs w vs[t]? P[t]? := fun p e => by
  obtain ⟨ht, rfl⟩ := List.getElem?_eq_some_iff.1 e
  exact h.pg t ht
theorem IdxAt.repRow (h : IdxAt w g S P v vs) (hg : w.grownBy w5 v.ownBlock) (i j : Nat) (hi : i ≤ P.length) (Q : List (List Ent)) (qs : List Value) (hql : qs.length = Q.length)
    (hq : ∀ t : Nat, PgIs w5 qs[t]? Q[t]?) (hrow : w5.ownsRow 0 tPg 1 v' (repL P i j Q).length (repL vs i j qs)) :
    IdxAt (w5.setCell ⟨g, 1, none⟩ v') g S (repL P i j Q) v' (repL vs i j qs) ∧ Chg (foot g v) w (w5.setCell ⟨g, 1, none⟩ v') := by
  refine h.setRow hg hrow fun t ht => ?_
  have hk : ∀ t : Nat, PgIs w5 vs[t]? P[t]? := fun t p e => by
    obtain ⟨a, c, h1, h2, h3, h4⟩ := h.pgs t p e
    exact ⟨a, c, h1, h2, h3, h4.kept (Chg.of_grown (F := foot g v) hg (fun b e => .inr e)) (fun b e => h.noF b e)⟩
  have e1 := repL_get (new := Q) (j := j) hi t
  have e2 := repL_get (l := vs) (new := qs) (i := i) (j := j) (by rw [h.len]; exact hi) t
  rw [hql] at e2
  rw [List.getElem?_eq_getElem ht] at e1
  rw [e2]
  split at e1
  · rename_i c1; rw [if_pos c1]; exact hk _ _ e1.symm
  · rename_i c1
    rw [if_neg c1]
    split at e1
    · rename_i c2; rw [if_pos c2]; exact hq _ _ e1.symm
    · rename_i c2; rw [if_neg c2]; exact hk _ _ e1.symm
section
set_option maxRecDepth 20000
set_option maxHeartbeats 3200000
/-- a page that is too long becomes two -/
theorem replace_x (h : IdxAt w g S P v vs) (p p1 : Nat) (hp : p < P.length) (hp1 : p1 = p + 1) (b4 o4 n c : Nat) (xs : List Ent) (hn : n = xs.length) (hx : RdE w (some ⟨b4, o4, none⟩) xs) (hc : n ≤ c) (hl : S < n) (hn2 : n ≤ 300) (hS : 1 ≤ S ∧ S ≤ 64) (hPl : P.length ≤ 4398046511104) (k : Nat) (hk : k = (S + 1) / 2) :
    Calls Try.prog 37 #[.pointer (some ⟨g, 0, none⟩), .int .i64 (p : Int), .slice (some ⟨b4, o4, none⟩) n c] w fun e w' => e = .returned (.tuple #[]) ∧ (∃ v' vs', IdxAt w' g S (repL P p p1 [xs.take k, xs.drop k]) v' vs' ∧ (v'.ownBlock = v.ownBlock ∨ ∃ b, v'.ownBlock = some b ∧ w.heap.size ≤ b)) ∧ Chg (foot g v) w w' := by
  have hcg0 : w.cell? ⟨g, 0, none⟩ = some (.int .i64 (S : Int)) := by rw [cell_of_row _ _ _ _ _ _ h.hd]; rfl
  rcases h.row.2 with ⟨e, h0⟩ | ⟨rb, cap, cur, e, hB, hg, hn1, hm, r⟩
  · omega
  subst e
  obtain ⟨N, hN⟩ : ∃ N, N = P.length := ⟨_, rfl⟩
  have HI : Hid (IdxAt w g S P (.slice (some ⟨rb, 0, none⟩) P.length cap) vs) := h
  rw [← hN] at h
  have hcg1 : w.cell? ⟨g, 1, none⟩ = some (.slice (some ⟨rb, 0, none⟩) N cap) := by rw [hN, cell_of_row _ _ _ _ _ _ HI.out.hd]; rfl
  have hli : ¬ ((n : Int) ≤ (S : Int)) := by omega
  obtain ⟨s1, hs1⟩ : ∃ s1, s1 = S + 1 := ⟨_, rfl⟩
  have hw0 : IntKind.i64.wrap ((S : Int) + 1) = (s1 : Int) := by rw [IntKind.wrap_i64]; omega
  have hw1 : IntKind.i64.wrap ((p : Int) + 1) = (p1 : Int) := by rw [IntKind.wrap_i64]; omega
  have hkn : (k : Int) ≤ (n : Int) := by omega
  have hk0 : (0 : Int) ≤ (k : Int) := by omega
  have hknn : k ≤ n := by omega
  have hkc : (k : Int) ≤ (c : Int) := by omega
  have hkcn : k ≤ c := by omega
  have hck : ¬ c = k := by omega
  have HX : Hid (RdE w (some ⟨b4, o4, none⟩) xs) := hx
  have HONE : Hid _ := h.one
  have HN : Hid (N = P.length) := hN
  have HNX : Hid (n = xs.length) := hn
  have HK : Hid (k = (S + 1) / 2) := hk
  have HP1 : Hid (p1 = p + 1) := hp1
  have HPN : Hid (p < N) := (show p < N by omega)
  clear h hx hn hN hk hp1 hB hg hn1 hm r
  go_enter Try.func37, Try.ntmps37
  go_wp2_with fail
  rw [show ((S : Int) + 1) / 2 = (k : Int) by have := HK.out; omega]
  have HC1 : Hid (∀ u, Below w.heap.size w u → Calls Try.prog 64 #[.slice (some ⟨b4, o4, none⟩) k c] u fun e u' => ∃ v, e = .returned v ∧ OwnE u' u.heap.size v (xs.take k) ∧ Below u.heap.size u u') := fun u hu => cloneE_t _ _ _ _ u (by rw [List.length_take, ← HNX.out]; omega) ((HX.out.below hu).take k) (fun e => by cases e) (by omega)
  have HC2 : Hid (∀ u, Below w.heap.size w u → Calls Try.prog 64 #[.slice (some ⟨b4, o4 + k * 3, none⟩) (n - k) (c - k)] u fun e u' => ∃ v, e = .returned v ∧ OwnE u' u.heap.size v (xs.drop k) ∧ Below u.heap.size u u') := fun u hu => cloneE_t _ _ _ _ u (by rw [List.length_drop, ← HNX.out]) ((HX.out.below hu).drop k) (fun e => by cases e) (by omega)
  obtain ⟨k1, hk1⟩ : ∃ k1, k1 = (xs.take k).length := ⟨_, rfl⟩
  obtain ⟨k2, hk2⟩ : ∃ k2, k2 = (xs.drop k).length := ⟨_, rfl⟩
  have HK1 : Hid _ := hk1
  have HK2 : Hid _ := hk2
  clear hk1 hk2
  have hgl : g < w.heap.size := (Array.getElem?_eq_some_iff.1 HI.out.hd).1
  refine wp_region_noPanic ?_
  refine wp_region_held_drew (S := (fun _ => True)) (by kernel_rfl) (by exact trivial) (fun hHeld => ?_)
  refine take_at (i := 0) 29 (v := ?_) rfl rfl (by kernel_rfl) (by kernel_rfl) (by kernel_rfl) (fun _ _ _ h => h) (by rfl) ?_ hHeld ?_
  rotate_left
  · (intro w hSw; (try dsimp only at hSw); go_simp; try with_reducible rfl)
  simp only [Act.put, List.setIfInBounds_toArray, List.set_cons_zero, List.set_cons_succ]
  refine take_at (i := 1) 30 (v := ?_) rfl rfl (by kernel_rfl) (by kernel_rfl) (by kernel_rfl) (fun _ _ _ h => h) (by rfl) ?_ hHeld ?_
  rotate_left
  · (intro w hSw; (try dsimp only at hSw); go_simp; try with_reducible rfl)
  simp only [Act.put, List.setIfInBounds_toArray, List.set_cons_zero, List.set_cons_succ]
  refine take_at (i := 2) 31 (v := ?_) rfl rfl (by kernel_rfl) (by kernel_rfl) (by kernel_rfl) (fun _ _ _ h => h) (by rfl) ?_ hHeld ?_
  rotate_left
  · (intro w hSw; (try dsimp only at hSw); go_simp; try with_reducible rfl)
  simp only [Act.put, List.setIfInBounds_toArray, List.set_cons_zero, List.set_cons_succ]
  refine take_at (i := 3) 32 (v := ?_) rfl rfl (by kernel_rfl) (by kernel_rfl) (by kernel_rfl) (fun _ _ _ h => h) (by rfl) ?_ hHeld ?_
  rotate_left
  · (intro w hSw; (try dsimp only at hSw); go_simp; try with_reducible rfl)
  simp only [Act.put, List.setIfInBounds_toArray, List.set_cons_zero, List.set_cons_succ]
  refine take_at (i := 4) 33 (v := ?_) rfl rfl (by kernel_rfl) (by kernel_rfl) (by kernel_rfl) (fun _ _ _ h => h) (by rfl) ?_ hHeld ?_
  rotate_left
  · (intro w hSw; (try dsimp only at hSw); go_simp; try with_reducible rfl)
  simp only [Act.put, List.setIfInBounds_toArray, List.set_cons_zero, List.set_cons_succ]
  refine take_at (i := 5) 34 (v := ?_) rfl rfl (by kernel_rfl) (by kernel_rfl) (by kernel_rfl) (fun _ _ _ h => h) (by rfl) ?_ hHeld ?_
  rotate_left
  · (intro w hSw; (try dsimp only at hSw); go_simp; try with_reducible rfl)
  simp only [Act.put, List.setIfInBounds_toArray, List.set_cons_zero, List.set_cons_succ]
  refine take_at (i := 6) 7 (v := ?_) rfl rfl (by kernel_rfl) (by kernel_rfl) (by kernel_rfl) (fun _ _ _ h => h) (by rfl) ?_ hHeld ?_
  rotate_left
  · (intro w hSw; (try dsimp only at hSw); go_simp; try with_reducible rfl)
  simp only [Act.put, List.setIfInBounds_toArray, List.set_cons_zero, List.set_cons_succ]
  refine take_at (i := 7) 8 (v := ?_) rfl rfl (by kernel_rfl) (by kernel_rfl) (by kernel_rfl) (fun _ _ _ h => h) (by rfl) ?_ hHeld ?_
  rotate_left
  · (intro w hSw; (try dsimp only at hSw); go_simp; try with_reducible rfl)
  simp only [Act.put, List.setIfInBounds_toArray, List.set_cons_zero, List.set_cons_succ]
  refine wpAnyH_done (by kernel_rfl) ?_ _
  refine NoPanic.normal ?_
  go_wp2_with fail
  refine wp_region_noPanic ?_
  refine wp_region_held_drew (S := (fun _ => True)) (by kernel_rfl) (by exact trivial) (fun hHeld => ?_)
  refine take_at (i := 0) 35 (v := ?_) rfl rfl (by kernel_rfl) (by kernel_rfl) (by kernel_rfl) (fun _ _ _ h => h) (by rfl) ?_ hHeld ?_
  rotate_left
  · (intro w hSw; (try dsimp only at hSw); go_simp; try with_reducible rfl)
  simp only [Act.put, List.setIfInBounds_toArray, List.set_cons_zero, List.set_cons_succ]
  refine take_at (i := 1) 36 (v := ?_) rfl rfl (by kernel_rfl) (by kernel_rfl) (by kernel_rfl) (fun _ _ _ h => h) (by rfl) ?_ hHeld ?_
  rotate_left
  · (intro w hSw; (try dsimp only at hSw); go_simp; try with_reducible rfl)
  simp only [Act.put, List.setIfInBounds_toArray, List.set_cons_zero, List.set_cons_succ]
  refine take_at (i := 2) 37 (v := ?_) rfl rfl (by kernel_rfl) (by kernel_rfl) (by kernel_rfl) (fun _ _ _ h => h) (by rfl) ?_ hHeld ?_
  rotate_left
  · (intro w hSw; (try dsimp only at hSw); go_simp; try with_reducible rfl)
  simp only [Act.put, List.setIfInBounds_toArray, List.set_cons_zero, List.set_cons_succ]
  refine take_at (i := 3) 38 (v := ?_) rfl rfl (by kernel_rfl) (by kernel_rfl) (by kernel_rfl) (fun _ _ _ h => h) (by rfl) ?_ hHeld ?_
  rotate_left
  · (intro w hSw; (try dsimp only at hSw); go_simp; try with_reducible rfl)
  simp only [Act.put, List.setIfInBounds_toArray, List.set_cons_zero, List.set_cons_succ]
  refine take_at (i := 5) 40 (v := ?_) rfl rfl (by kernel_rfl) (by kernel_rfl) (by kernel_rfl) (fun _ _ _ h => h) (by rfl) ?_ hHeld ?_
  rotate_left
  · (intro w hSw; (try dsimp only at hSw); go_simp; try with_reducible rfl)
  simp only [Act.put, List.setIfInBounds_toArray, List.set_cons_zero, List.set_cons_succ]
  refine take_at (i := 6) 41 (v := ?_) rfl rfl (by kernel_rfl) (by kernel_rfl) (by kernel_rfl) (fun _ _ _ h => h) (by rfl) ?_ hHeld ?_
  rotate_left
  · (intro w hSw; (try dsimp only at hSw); go_simp; try with_reducible rfl)
  simp only [Act.put, List.setIfInBounds_toArray, List.set_cons_zero, List.set_cons_succ]
  refine take_at (i := 7) 42 (v := ?_) rfl rfl (by kernel_rfl) (by kernel_rfl) (by kernel_rfl) (fun _ _ _ h => h) (by rfl) ?_ hHeld ?_
  rotate_left
  · (intro w hSw; (try dsimp only at hSw); go_simp; try with_reducible rfl)
  simp only [Act.put, List.setIfInBounds_toArray, List.set_cons_zero, List.set_cons_succ]
  refine take_at (i := 8) 43 (v := ?_) rfl rfl (by kernel_rfl) (by kernel_rfl) (by kernel_rfl) (fun _ _ _ h => h) (by rfl) ?_ hHeld ?_
  rotate_left
  · (intro w hSw; (try dsimp only at hSw); go_simp; try with_reducible rfl)
  simp only [Act.put, List.setIfInBounds_toArray, List.set_cons_zero, List.set_cons_succ]
  refine take_at (i := 10) 45 (v := ?_) rfl rfl (by kernel_rfl) (by kernel_rfl) (by kernel_rfl) (fun _ _ _ h => h) (by rfl) ?_ hHeld ?_
  rotate_left
  · (intro w hSw; (try dsimp only at hSw); go_simp; try with_reducible rfl)
  simp only [Act.put, List.setIfInBounds_toArray, List.set_cons_zero, List.set_cons_succ]
  refine wpAnyH_ready (rs := [4, 9]) (by kernel_rfl) (by simp) ?_
  refine AllReadyH.cons (o := _) rfl (fun K hK => ?_) ?_
  focus
    rw [if_pos (by rfl)]
    refine val_wp 39 (v := ?_) rfl ?_ ?_
    rotate_left
    · (go_simp; try with_reducible rfl)
    refine hK.out _ _ (by exact trivial) ?_
    clear hK K
    intro hHeld2
    clear hHeld
    have hHeld := hHeld2
    clear hHeld2
    simp only [Act.put, List.setIfInBounds_toArray, List.set_cons_zero, List.set_cons_succ]
    refine run_at (i := 9) rfl (by kernel_rfl) (by rfl) (fun K hK => ?_)
    simp only [List.getElem_toArray, List.getElem_cons_zero, List.getElem_cons_succ]
    go_simp
    first | (go_at_call 63; refine Calls.mono (split_t (HROW3.out _ _) HONE.out p p1 HP1.out HPN.out w2.heap.size _ _ (heap_alloc_new w2 _) HNE.out rfl rfl (by have := HN.out; omega)) ?_; rintro e w4 ⟨g', c', rfl, hown4, hgr4, hwh4⟩; have hd4 := (HD3.out _ _ w4 hgr4); have hc4 : w4.cell? ⟨g, 1, none⟩ = some (.slice (some ⟨rb, 0, none⟩) N cap) := (by rw [cell_of_row _ _ _ _ _ _ hd4, HN.out]; rfl); have hf4 : w4.frozen? ⟨g, 1, none⟩ = false := (by simp [World.frozen?, hd4]); have HO4 : Hid _ := hown4; have HG4 : Hid _ := hgr4; have HW4 : Hid _ := hwh4; clear hown4 hgr4 hwh4 hd4) | (go_at_call 64; refine Calls.mono (HC2.out _ HB1.out) ?_; rintro e w2 ⟨v2, rfl, hown2, hb2⟩; have HB2 : Hid (Below w.heap.size w w2) := below_next HB1.out hb2; obtain ⟨a2, c2, e2, hc2, hn2, hr2⟩ := OwnE.val hown2; rw [← HK2.out] at e2 hc2; subst e2; have HR12 : Hid (RdE w2 a1 (xs.take k)) := HR1.out.below hb2; have HR2 : Hid (RdE w2 a2 (xs.drop k)) := hr2; have HQ2 : Hid (k2 ≤ c2 ∧ (a2 = none → c2 = 0)) := ⟨hc2, hn2⟩; have hcg2 : w2.cell? ⟨g, 1, none⟩ = some (.slice (some ⟨rb, 0, none⟩) N cap) := (HB2.out.cell hgl).trans hcg1; have hgl2 : g < w2.heap.size := Nat.lt_of_lt_of_le hgl HB2.out.size; have HROW3 : Hid (∀ x y, (w2.alloc (.cells #[x, y] tPg)).ownsRow 0 tPg 1 (.slice (some ⟨rb, 0, none⟩) N cap) N vs) := (fun x y => (by rw [HN.out]; exact (HI.out.below (al HB2.out _)).row)); have HNE : Hid (rb ≠ w2.heap.size) := (fun e => (by have h9 := (World.ownsRow.lt HI.out.row rb rfl).2; have := HB2.out.size; omega)); have HD3 : Hid (∀ x y u, (w2.alloc (.cells #[x, y] tPg)).grownBy u (some rb) → u.heap[g]? = some (.cells #[.int .i64 (S : Int), .slice (some ⟨rb, 0, none⟩) P.length cap] tIx (0, 0))) := (fun x y u hu => (hu.block g (by have := (al HB2.out (.cells #[x, y] tPg)).size; omega) (fun e => HI.out.ne e.symm)).trans (HI.out.below (al HB2.out _)).hd); clear hown2 hb2 hc2 hn2 hr2) | (go_at_call 64; refine Calls.mono (HC1.out _ (by exact (Below.refl _ _).drew.drew)) ?_; rintro e w1 ⟨v1, rfl, hown1, hb1⟩; have HB1 : Hid (Below w.heap.size w w1) := below_next (Below.refl _ _).drew.drew hb1; obtain ⟨a1, c1, e1, hc1, hn1, hr1⟩ := OwnE.val hown1; rw [← HK1.out] at e1 hc1; subst e1; have HR1 : Hid (RdE w1 a1 (xs.take k)) := hr1; have HQ1 : Hid (k1 ≤ c1 ∧ (a1 = none → c1 = 0)) := ⟨hc1, hn1⟩; have hcgA : w1.cell? ⟨g, 1, none⟩ = some (.slice (some ⟨rb, 0, none⟩) N cap) := (HB1.out.cell hgl).trans hcg1; clear hown1 hb1 hc1 hn1 hr1)
    go_wp2_with fail
    refine hK.out _ _ (by exact trivial) ?_
    clear hK K
    intro hHeld2
    clear hHeld
    have hHeld := hHeld2
    clear hHeld2
    try simp only [Act.put, List.setIfInBounds_toArray, List.set_cons_zero, List.set_cons_succ]
    refine run_at (i := 11) rfl (by kernel_rfl) (by rfl) (fun K hK => ?_)
    simp only [List.getElem_toArray, List.getElem_cons_zero, List.getElem_cons_succ]
    go_simp
    first | (go_at_call 63; refine Calls.mono (split_t (HROW3.out _ _) HONE.out p p1 HP1.out HPN.out w2.heap.size _ _ (heap_alloc_new w2 _) HNE.out rfl rfl (by have := HN.out; omega)) ?_; rintro e w4 ⟨g', c', rfl, hown4, hgr4, hwh4⟩; have hd4 := (HD3.out _ _ w4 hgr4); have hc4 : w4.cell? ⟨g, 1, none⟩ = some (.slice (some ⟨rb, 0, none⟩) N cap) := (by rw [cell_of_row _ _ _ _ _ _ hd4, HN.out]; rfl); have hf4 : w4.frozen? ⟨g, 1, none⟩ = false := (by simp [World.frozen?, hd4]); have HO4 : Hid _ := hown4; have HG4 : Hid _ := hgr4; have HW4 : Hid _ := hwh4; clear hown4 hgr4 hwh4 hd4) | (go_at_call 64; refine Calls.mono (HC2.out _ HB1.out) ?_; rintro e w2 ⟨v2, rfl, hown2, hb2⟩; have HB2 : Hid (Below w.heap.size w w2) := below_next HB1.out hb2; obtain ⟨a2, c2, e2, hc2, hn2, hr2⟩ := OwnE.val hown2; rw [← HK2.out] at e2 hc2; subst e2; have HR12 : Hid (RdE w2 a1 (xs.take k)) := HR1.out.below hb2; have HR2 : Hid (RdE w2 a2 (xs.drop k)) := hr2; have HQ2 : Hid (k2 ≤ c2 ∧ (a2 = none → c2 = 0)) := ⟨hc2, hn2⟩; have hcg2 : w2.cell? ⟨g, 1, none⟩ = some (.slice (some ⟨rb, 0, none⟩) N cap) := (HB2.out.cell hgl).trans hcg1; have hgl2 : g < w2.heap.size := Nat.lt_of_lt_of_le hgl HB2.out.size; have HROW3 : Hid (∀ x y, (w2.alloc (.cells #[x, y] tPg)).ownsRow 0 tPg 1 (.slice (some ⟨rb, 0, none⟩) N cap) N vs) := (fun x y => (by rw [HN.out]; exact (HI.out.below (al HB2.out _)).row)); have HNE : Hid (rb ≠ w2.heap.size) := (fun e => (by have h9 := (World.ownsRow.lt HI.out.row rb rfl).2; have := HB2.out.size; omega)); have HD3 : Hid (∀ x y u, (w2.alloc (.cells #[x, y] tPg)).grownBy u (some rb) → u.heap[g]? = some (.cells #[.int .i64 (S : Int), .slice (some ⟨rb, 0, none⟩) P.length cap] tIx (0, 0))) := (fun x y u hu => (hu.block g (by have := (al HB2.out (.cells #[x, y] tPg)).size; omega) (fun e => HI.out.ne e.symm)).trans (HI.out.below (al HB2.out _)).hd); clear hown2 hb2 hc2 hn2 hr2) | (go_at_call 64; refine Calls.mono (HC1.out _ (by exact (Below.refl _ _).drew.drew)) ?_; rintro e w1 ⟨v1, rfl, hown1, hb1⟩; have HB1 : Hid (Below w.heap.size w w1) := below_next (Below.refl _ _).drew.drew hb1; obtain ⟨a1, c1, e1, hc1, hn1, hr1⟩ := OwnE.val hown1; rw [← HK1.out] at e1 hc1; subst e1; have HR1 : Hid (RdE w1 a1 (xs.take k)) := hr1; have HQ1 : Hid (k1 ≤ c1 ∧ (a1 = none → c1 = 0)) := ⟨hc1, hn1⟩; have hcgA : w1.cell? ⟨g, 1, none⟩ = some (.slice (some ⟨rb, 0, none⟩) N cap) := (HB1.out.cell hgl).trans hcg1; clear hown1 hb1 hc1 hn1 hr1)
    go_wp2_with fail
    refine hK.out _ _ (by exact trivial) ?_
    clear hK K
    intro hHeld2
    clear hHeld
    have hHeld := hHeld2
    clear hHeld2
    try simp only [Act.put, List.setIfInBounds_toArray, List.set_cons_zero, List.set_cons_succ]
    refine run_at (i := 12) rfl (by kernel_rfl) (by rfl) (fun K hK => ?_)
    simp only [List.getElem_toArray, List.getElem_cons_zero, List.getElem_cons_succ]
    go_simp
    go_wp2_with fail
    refine hK.out _ _ (by exact trivial) ?_
    clear hK K
    intro hHeld2
    clear hHeld
    have hHeld := hHeld2
    clear hHeld2
    try simp only [Act.put, List.setIfInBounds_toArray, List.set_cons_zero, List.set_cons_succ]
    refine run_at (i := 13) rfl (by kernel_rfl) (by rfl) (fun K hK => ?_)
    simp only [List.getElem_toArray, List.getElem_cons_zero, List.getElem_cons_succ]
    go_simp
    first | (go_at_call 63; refine Calls.mono (split_t (HROW3.out _ _) HONE.out p p1 HP1.out HPN.out w2.heap.size _ _ (heap_alloc_new w2 _) HNE.out rfl rfl (by have := HN.out; omega)) ?_; rintro e w4 ⟨g', c', rfl, hown4, hgr4, hwh4⟩; have hd4 := (HD3.out _ _ w4 hgr4); have hc4 : w4.cell? ⟨g, 1, none⟩ = some (.slice (some ⟨rb, 0, none⟩) N cap) := (by rw [cell_of_row _ _ _ _ _ _ hd4, HN.out]; rfl); have hf4 : w4.frozen? ⟨g, 1, none⟩ = false := (by simp [World.frozen?, hd4]); have HO4 : Hid _ := hown4; have HG4 : Hid _ := hgr4; have HW4 : Hid _ := hwh4; clear hown4 hgr4 hwh4 hd4) | (go_at_call 64; refine Calls.mono (HC2.out _ HB1.out) ?_; rintro e w2 ⟨v2, rfl, hown2, hb2⟩; have HB2 : Hid (Below w.heap.size w w2) := below_next HB1.out hb2; obtain ⟨a2, c2, e2, hc2, hn2, hr2⟩ := OwnE.val hown2; rw [← HK2.out] at e2 hc2; subst e2; have HR12 : Hid (RdE w2 a1 (xs.take k)) := HR1.out.below hb2; have HR2 : Hid (RdE w2 a2 (xs.drop k)) := hr2; have HQ2 : Hid (k2 ≤ c2 ∧ (a2 = none → c2 = 0)) := ⟨hc2, hn2⟩; have hcg2 : w2.cell? ⟨g, 1, none⟩ = some (.slice (some ⟨rb, 0, none⟩) N cap) := (HB2.out.cell hgl).trans hcg1; have hgl2 : g < w2.heap.size := Nat.lt_of_lt_of_le hgl HB2.out.size; have HROW3 : Hid (∀ x y, (w2.alloc (.cells #[x, y] tPg)).ownsRow 0 tPg 1 (.slice (some ⟨rb, 0, none⟩) N cap) N vs) := (fun x y => (by rw [HN.out]; exact (HI.out.below (al HB2.out _)).row)); have HNE : Hid (rb ≠ w2.heap.size) := (fun e => (by have h9 := (World.ownsRow.lt HI.out.row rb rfl).2; have := HB2.out.size; omega)); have HD3 : Hid (∀ x y u, (w2.alloc (.cells #[x, y] tPg)).grownBy u (some rb) → u.heap[g]? = some (.cells #[.int .i64 (S : Int), .slice (some ⟨rb, 0, none⟩) P.length cap] tIx (0, 0))) := (fun x y u hu => (hu.block g (by have := (al HB2.out (.cells #[x, y] tPg)).size; omega) (fun e => HI.out.ne e.symm)).trans (HI.out.below (al HB2.out _)).hd); clear hown2 hb2 hc2 hn2 hr2) | (go_at_call 64; refine Calls.mono (HC1.out _ (by exact (Below.refl _ _).drew.drew)) ?_; rintro e w1 ⟨v1, rfl, hown1, hb1⟩; have HB1 : Hid (Below w.heap.size w w1) := below_next (Below.refl _ _).drew.drew hb1; obtain ⟨a1, c1, e1, hc1, hn1, hr1⟩ := OwnE.val hown1; rw [← HK1.out] at e1 hc1; subst e1; have HR1 : Hid (RdE w1 a1 (xs.take k)) := hr1; have HQ1 : Hid (k1 ≤ c1 ∧ (a1 = none → c1 = 0)) := ⟨hc1, hn1⟩; have hcgA : w1.cell? ⟨g, 1, none⟩ = some (.slice (some ⟨rb, 0, none⟩) N cap) := (HB1.out.cell hgl).trans hcg1; clear hown1 hb1 hc1 hn1 hr1)
    go_wp2_with fail
    refine hK.out _ _ (by exact trivial) ?_
    clear hK K
    intro hHeld2
    clear hHeld
    have hHeld := hHeld2
    clear hHeld2
    try simp only [Act.put, List.setIfInBounds_toArray, List.set_cons_zero, List.set_cons_succ]
    refine take_at (i := 14) 49 (v := ?_) rfl rfl (by kernel_rfl) (by kernel_rfl) (by kernel_rfl) (fun _ _ _ h => h) (by rfl) ?_ hHeld ?_
    rotate_left
    · (intro w hSw; (try dsimp only at hSw); go_simp; try with_reducible rfl)
    simp only [Act.put, List.setIfInBounds_toArray, List.set_cons_zero, List.set_cons_succ]
    refine take_at (i := 15) 50 (v := ?_) rfl rfl (by kernel_rfl) (by kernel_rfl) (by kernel_rfl) (fun _ _ _ h => h) (by rfl) ?_ hHeld ?_
    rotate_left
    · (intro w hSw; (try dsimp only at hSw); go_simp; try with_reducible rfl)
    simp only [Act.put, List.setIfInBounds_toArray, List.set_cons_zero, List.set_cons_succ]
    refine run_at (i := 16) rfl (by kernel_rfl) (by rfl) (fun K hK => ?_)
    simp only [List.getElem_toArray, List.getElem_cons_zero, List.getElem_cons_succ]
    go_simp
    go_wp2_with fail
    refine hK.out _ _ (by exact trivial) ?_
    clear hK K
    intro hHeld2
    clear hHeld
    have hHeld := hHeld2
    clear hHeld2
    try simp only [Act.put, List.setIfInBounds_toArray, List.set_cons_zero, List.set_cons_succ]
    refine wpAnyH_done (by kernel_rfl) ?_ _
    refine NoPanic.normal ?_
  rotate_left 1
  refine AllReadyH.cons (o := _) rfl (fun K hK => ?_) AllReadyH.nil
  focus
    rw [if_pos (by rfl)]
    simp only [List.getElem_toArray, List.getElem_cons_zero, List.getElem_cons_succ]
    go_simp
    first | (go_at_call 63; refine Calls.mono (split_t (HROW3.out _ _) HONE.out p p1 HP1.out HPN.out w2.heap.size _ _ (heap_alloc_new w2 _) HNE.out rfl rfl (by have := HN.out; omega)) ?_; rintro e w4 ⟨g', c', rfl, hown4, hgr4, hwh4⟩; have hd4 := (HD3.out _ _ w4 hgr4); have hc4 : w4.cell? ⟨g, 1, none⟩ = some (.slice (some ⟨rb, 0, none⟩) N cap) := (by rw [cell_of_row _ _ _ _ _ _ hd4, HN.out]; rfl); have hf4 : w4.frozen? ⟨g, 1, none⟩ = false := (by simp [World.frozen?, hd4]); have HO4 : Hid _ := hown4; have HG4 : Hid _ := hgr4; have HW4 : Hid _ := hwh4; clear hown4 hgr4 hwh4 hd4) | (go_at_call 64; refine Calls.mono (HC2.out _ HB1.out) ?_; rintro e w2 ⟨v2, rfl, hown2, hb2⟩; have HB2 : Hid (Below w.heap.size w w2) := below_next HB1.out hb2; obtain ⟨a2, c2, e2, hc2, hn2, hr2⟩ := OwnE.val hown2; rw [← HK2.out] at e2 hc2; subst e2; have HR12 : Hid (RdE w2 a1 (xs.take k)) := HR1.out.below hb2; have HR2 : Hid (RdE w2 a2 (xs.drop k)) := hr2; have HQ2 : Hid (k2 ≤ c2 ∧ (a2 = none → c2 = 0)) := ⟨hc2, hn2⟩; have hcg2 : w2.cell? ⟨g, 1, none⟩ = some (.slice (some ⟨rb, 0, none⟩) N cap) := (HB2.out.cell hgl).trans hcg1; have hgl2 : g < w2.heap.size := Nat.lt_of_lt_of_le hgl HB2.out.size; have HROW3 : Hid (∀ x y, (w2.alloc (.cells #[x, y] tPg)).ownsRow 0 tPg 1 (.slice (some ⟨rb, 0, none⟩) N cap) N vs) := (fun x y => (by rw [HN.out]; exact (HI.out.below (al HB2.out _)).row)); have HNE : Hid (rb ≠ w2.heap.size) := (fun e => (by have h9 := (World.ownsRow.lt HI.out.row rb rfl).2; have := HB2.out.size; omega)); have HD3 : Hid (∀ x y u, (w2.alloc (.cells #[x, y] tPg)).grownBy u (some rb) → u.heap[g]? = some (.cells #[.int .i64 (S : Int), .slice (some ⟨rb, 0, none⟩) P.length cap] tIx (0, 0))) := (fun x y u hu => (hu.block g (by have := (al HB2.out (.cells #[x, y] tPg)).size; omega) (fun e => HI.out.ne e.symm)).trans (HI.out.below (al HB2.out _)).hd); clear hown2 hb2 hc2 hn2 hr2) | (go_at_call 64; refine Calls.mono (HC1.out _ (by exact (Below.refl _ _).drew.drew)) ?_; rintro e w1 ⟨v1, rfl, hown1, hb1⟩; have HB1 : Hid (Below w.heap.size w w1) := below_next (Below.refl _ _).drew.drew hb1; obtain ⟨a1, c1, e1, hc1, hn1, hr1⟩ := OwnE.val hown1; rw [← HK1.out] at e1 hc1; subst e1; have HR1 : Hid (RdE w1 a1 (xs.take k)) := hr1; have HQ1 : Hid (k1 ≤ c1 ∧ (a1 = none → c1 = 0)) := ⟨hc1, hn1⟩; have hcgA : w1.cell? ⟨g, 1, none⟩ = some (.slice (some ⟨rb, 0, none⟩) N cap) := (HB1.out.cell hgl).trans hcg1; clear hown1 hb1 hc1 hn1 hr1)
    go_wp2_with fail
    refine hK.out _ _ (by exact trivial) ?_
    clear hK K
    intro hHeld2
    clear hHeld
    have hHeld := hHeld2
    clear hHeld2
    try simp only [Act.put, List.setIfInBounds_toArray, List.set_cons_zero, List.set_cons_succ]
    refine wpAnyH_ready (rs := [4, 11]) (by kernel_rfl) (by simp) ?_
    refine AllReadyH.cons (o := _) rfl (fun K hK => ?_) ?_
    focus
      rw [if_pos (by rfl)]
      refine val_wp 39 (v := ?_) rfl ?_ ?_
      rotate_left
      · (go_simp; try with_reducible rfl)
      refine hK.out _ _ (by exact trivial) ?_
      clear hK K
      intro hHeld2
      clear hHeld
      have hHeld := hHeld2
      clear hHeld2
      simp only [Act.put, List.setIfInBounds_toArray, List.set_cons_zero, List.set_cons_succ]
      refine run_at (i := 11) rfl (by kernel_rfl) (by rfl) (fun K hK => ?_)
      simp only [List.getElem_toArray, List.getElem_cons_zero, List.getElem_cons_succ]
      go_simp
      first | (go_at_call 63; refine Calls.mono (split_t (HROW3.out _ _) HONE.out p p1 HP1.out HPN.out w2.heap.size _ _ (heap_alloc_new w2 _) HNE.out rfl rfl (by have := HN.out; omega)) ?_; rintro e w4 ⟨g', c', rfl, hown4, hgr4, hwh4⟩; have hd4 := (HD3.out _ _ w4 hgr4); have hc4 : w4.cell? ⟨g, 1, none⟩ = some (.slice (some ⟨rb, 0, none⟩) N cap) := (by rw [cell_of_row _ _ _ _ _ _ hd4, HN.out]; rfl); have hf4 : w4.frozen? ⟨g, 1, none⟩ = false := (by simp [World.frozen?, hd4]); have HO4 : Hid _ := hown4; have HG4 : Hid _ := hgr4; have HW4 : Hid _ := hwh4; clear hown4 hgr4 hwh4 hd4) | (go_at_call 64; refine Calls.mono (HC2.out _ HB1.out) ?_; rintro e w2 ⟨v2, rfl, hown2, hb2⟩; have HB2 : Hid (Below w.heap.size w w2) := below_next HB1.out hb2; obtain ⟨a2, c2, e2, hc2, hn2, hr2⟩ := OwnE.val hown2; rw [← HK2.out] at e2 hc2; subst e2; have HR12 : Hid (RdE w2 a1 (xs.take k)) := HR1.out.below hb2; have HR2 : Hid (RdE w2 a2 (xs.drop k)) := hr2; have HQ2 : Hid (k2 ≤ c2 ∧ (a2 = none → c2 = 0)) := ⟨hc2, hn2⟩; have hcg2 : w2.cell? ⟨g, 1, none⟩ = some (.slice (some ⟨rb, 0, none⟩) N cap) := (HB2.out.cell hgl).trans hcg1; have hgl2 : g < w2.heap.size := Nat.lt_of_lt_of_le hgl HB2.out.size; have HROW3 : Hid (∀ x y, (w2.alloc (.cells #[x, y] tPg)).ownsRow 0 tPg 1 (.slice (some ⟨rb, 0, none⟩) N cap) N vs) := (fun x y => (by rw [HN.out]; exact (HI.out.below (al HB2.out _)).row)); have HNE : Hid (rb ≠ w2.heap.size) := (fun e => (by have h9 := (World.ownsRow.lt HI.out.row rb rfl).2; have := HB2.out.size; omega)); have HD3 : Hid (∀ x y u, (w2.alloc (.cells #[x, y] tPg)).grownBy u (some rb) → u.heap[g]? = some (.cells #[.int .i64 (S : Int), .slice (some ⟨rb, 0, none⟩) P.length cap] tIx (0, 0))) := (fun x y u hu => (hu.block g (by have := (al HB2.out (.cells #[x, y] tPg)).size; omega) (fun e => HI.out.ne e.symm)).trans (HI.out.below (al HB2.out _)).hd); clear hown2 hb2 hc2 hn2 hr2) | (go_at_call 64; refine Calls.mono (HC1.out _ (by exact (Below.refl _ _).drew.drew)) ?_; rintro e w1 ⟨v1, rfl, hown1, hb1⟩; have HB1 : Hid (Below w.heap.size w w1) := below_next (Below.refl _ _).drew.drew hb1; obtain ⟨a1, c1, e1, hc1, hn1, hr1⟩ := OwnE.val hown1; rw [← HK1.out] at e1 hc1; subst e1; have HR1 : Hid (RdE w1 a1 (xs.take k)) := hr1; have HQ1 : Hid (k1 ≤ c1 ∧ (a1 = none → c1 = 0)) := ⟨hc1, hn1⟩; have hcgA : w1.cell? ⟨g, 1, none⟩ = some (.slice (some ⟨rb, 0, none⟩) N cap) := (HB1.out.cell hgl).trans hcg1; clear hown1 hb1 hc1 hn1 hr1)
      go_wp2_with fail
      refine hK.out _ _ (by exact trivial) ?_
      clear hK K
      intro hHeld2
      clear hHeld
      have hHeld := hHeld2
      clear hHeld2
      try simp only [Act.put, List.setIfInBounds_toArray, List.set_cons_zero, List.set_cons_succ]
      refine run_at (i := 12) rfl (by kernel_rfl) (by rfl) (fun K hK => ?_)
      simp only [List.getElem_toArray, List.getElem_cons_zero, List.getElem_cons_succ]
      go_simp
      go_wp2_with fail
      refine hK.out _ _ (by exact trivial) ?_
      clear hK K
      intro hHeld2
      clear hHeld
      have hHeld := hHeld2
      clear hHeld2
      try simp only [Act.put, List.setIfInBounds_toArray, List.set_cons_zero, List.set_cons_succ]
      refine run_at (i := 13) rfl (by kernel_rfl) (by rfl) (fun K hK => ?_)
      simp only [List.getElem_toArray, List.getElem_cons_zero, List.getElem_cons_succ]
      go_simp
      first | (go_at_call 63; refine Calls.mono (split_t (HROW3.out _ _) HONE.out p p1 HP1.out HPN.out w2.heap.size _ _ (heap_alloc_new w2 _) HNE.out rfl rfl (by have := HN.out; omega)) ?_; rintro e w4 ⟨g', c', rfl, hown4, hgr4, hwh4⟩; have hd4 := (HD3.out _ _ w4 hgr4); have hc4 : w4.cell? ⟨g, 1, none⟩ = some (.slice (some ⟨rb, 0, none⟩) N cap) := (by rw [cell_of_row _ _ _ _ _ _ hd4, HN.out]; rfl); have hf4 : w4.frozen? ⟨g, 1, none⟩ = false := (by simp [World.frozen?, hd4]); have HO4 : Hid _ := hown4; have HG4 : Hid _ := hgr4; have HW4 : Hid _ := hwh4; clear hown4 hgr4 hwh4 hd4) | (go_at_call 64; refine Calls.mono (HC2.out _ HB1.out) ?_; rintro e w2 ⟨v2, rfl, hown2, hb2⟩; have HB2 : Hid (Below w.heap.size w w2) := below_next HB1.out hb2; obtain ⟨a2, c2, e2, hc2, hn2, hr2⟩ := OwnE.val hown2; rw [← HK2.out] at e2 hc2; subst e2; have HR12 : Hid (RdE w2 a1 (xs.take k)) := HR1.out.below hb2; have HR2 : Hid (RdE w2 a2 (xs.drop k)) := hr2; have HQ2 : Hid (k2 ≤ c2 ∧ (a2 = none → c2 = 0)) := ⟨hc2, hn2⟩; have hcg2 : w2.cell? ⟨g, 1, none⟩ = some (.slice (some ⟨rb, 0, none⟩) N cap) := (HB2.out.cell hgl).trans hcg1; have hgl2 : g < w2.heap.size := Nat.lt_of_lt_of_le hgl HB2.out.size; have HROW3 : Hid (∀ x y, (w2.alloc (.cells #[x, y] tPg)).ownsRow 0 tPg 1 (.slice (some ⟨rb, 0, none⟩) N cap) N vs) := (fun x y => (by rw [HN.out]; exact (HI.out.below (al HB2.out _)).row)); have HNE : Hid (rb ≠ w2.heap.size) := (fun e => (by have h9 := (World.ownsRow.lt HI.out.row rb rfl).2; have := HB2.out.size; omega)); have HD3 : Hid (∀ x y u, (w2.alloc (.cells #[x, y] tPg)).grownBy u (some rb) → u.heap[g]? = some (.cells #[.int .i64 (S : Int), .slice (some ⟨rb, 0, none⟩) P.length cap] tIx (0, 0))) := (fun x y u hu => (hu.block g (by have := (al HB2.out (.cells #[x, y] tPg)).size; omega) (fun e => HI.out.ne e.symm)).trans (HI.out.below (al HB2.out _)).hd); clear hown2 hb2 hc2 hn2 hr2) | (go_at_call 64; refine Calls.mono (HC1.out _ (by exact (Below.refl _ _).drew.drew)) ?_; rintro e w1 ⟨v1, rfl, hown1, hb1⟩; have HB1 : Hid (Below w.heap.size w w1) := below_next (Below.refl _ _).drew.drew hb1; obtain ⟨a1, c1, e1, hc1, hn1, hr1⟩ := OwnE.val hown1; rw [← HK1.out] at e1 hc1; subst e1; have HR1 : Hid (RdE w1 a1 (xs.take k)) := hr1; have HQ1 : Hid (k1 ≤ c1 ∧ (a1 = none → c1 = 0)) := ⟨hc1, hn1⟩; have hcgA : w1.cell? ⟨g, 1, none⟩ = some (.slice (some ⟨rb, 0, none⟩) N cap) := (HB1.out.cell hgl).trans hcg1; clear hown1 hb1 hc1 hn1 hr1)
      go_wp2_with fail
      refine hK.out _ _ (by exact trivial) ?_
      clear hK K
      intro hHeld2
      clear hHeld
      have hHeld := hHeld2
      clear hHeld2
      try simp only [Act.put, List.setIfInBounds_toArray, List.set_cons_zero, List.set_cons_succ]
      refine take_at (i := 14) 49 (v := ?_) rfl rfl (by kernel_rfl) (by kernel_rfl) (by kernel_rfl) (fun _ _ _ h => h) (by rfl) ?_ hHeld ?_
      rotate_left
      · (intro w hSw; (try dsimp only at hSw); go_simp; try with_reducible rfl)
      simp only [Act.put, List.setIfInBounds_toArray, List.set_cons_zero, List.set_cons_succ]
      refine take_at (i := 15) 50 (v := ?_) rfl rfl (by kernel_rfl) (by kernel_rfl) (by kernel_rfl) (fun _ _ _ h => h) (by rfl) ?_ hHeld ?_
      rotate_left
      · (intro w hSw; (try dsimp only at hSw); go_simp; try with_reducible rfl)
      simp only [Act.put, List.setIfInBounds_toArray, List.set_cons_zero, List.set_cons_succ]
      refine run_at (i := 16) rfl (by kernel_rfl) (by rfl) (fun K hK => ?_)
      simp only [List.getElem_toArray, List.getElem_cons_zero, List.getElem_cons_succ]
      go_simp
      go_wp2_with fail
      refine hK.out _ _ (by exact trivial) ?_
      clear hK K
      intro hHeld2
      clear hHeld
      have hHeld := hHeld2
      clear hHeld2
      try simp only [Act.put, List.setIfInBounds_toArray, List.set_cons_zero, List.set_cons_succ]
      refine wpAnyH_done (by kernel_rfl) ?_ _
      refine NoPanic.normal ?_
    rotate_left 1
    refine AllReadyH.cons (o := _) rfl (fun K hK => ?_) AllReadyH.nil
    focus
      rw [if_pos (by rfl)]
      simp only [List.getElem_toArray, List.getElem_cons_zero, List.getElem_cons_succ]
      go_simp
      first | (go_at_call 63; refine Calls.mono (split_t (HROW3.out _ _) HONE.out p p1 HP1.out HPN.out w2.heap.size _ _ (heap_alloc_new w2 _) HNE.out rfl rfl (by have := HN.out; omega)) ?_; rintro e w4 ⟨g', c', rfl, hown4, hgr4, hwh4⟩; have hd4 := (HD3.out _ _ w4 hgr4); have hc4 : w4.cell? ⟨g, 1, none⟩ = some (.slice (some ⟨rb, 0, none⟩) N cap) := (by rw [cell_of_row _ _ _ _ _ _ hd4, HN.out]; rfl); have hf4 : w4.frozen? ⟨g, 1, none⟩ = false := (by simp [World.frozen?, hd4]); have HO4 : Hid _ := hown4; have HG4 : Hid _ := hgr4; have HW4 : Hid _ := hwh4; clear hown4 hgr4 hwh4 hd4) | (go_at_call 64; refine Calls.mono (HC2.out _ HB1.out) ?_; rintro e w2 ⟨v2, rfl, hown2, hb2⟩; have HB2 : Hid (Below w.heap.size w w2) := below_next HB1.out hb2; obtain ⟨a2, c2, e2, hc2, hn2, hr2⟩ := OwnE.val hown2; rw [← HK2.out] at e2 hc2; subst e2; have HR12 : Hid (RdE w2 a1 (xs.take k)) := HR1.out.below hb2; have HR2 : Hid (RdE w2 a2 (xs.drop k)) := hr2; have HQ2 : Hid (k2 ≤ c2 ∧ (a2 = none → c2 = 0)) := ⟨hc2, hn2⟩; have hcg2 : w2.cell? ⟨g, 1, none⟩ = some (.slice (some ⟨rb, 0, none⟩) N cap) := (HB2.out.cell hgl).trans hcg1; have hgl2 : g < w2.heap.size := Nat.lt_of_lt_of_le hgl HB2.out.size; have HROW3 : Hid (∀ x y, (w2.alloc (.cells #[x, y] tPg)).ownsRow 0 tPg 1 (.slice (some ⟨rb, 0, none⟩) N cap) N vs) := (fun x y => (by rw [HN.out]; exact (HI.out.below (al HB2.out _)).row)); have HNE : Hid (rb ≠ w2.heap.size) := (fun e => (by have h9 := (World.ownsRow.lt HI.out.row rb rfl).2; have := HB2.out.size; omega)); have HD3 : Hid (∀ x y u, (w2.alloc (.cells #[x, y] tPg)).grownBy u (some rb) → u.heap[g]? = some (.cells #[.int .i64 (S : Int), .slice (some ⟨rb, 0, none⟩) P.length cap] tIx (0, 0))) := (fun x y u hu => (hu.block g (by have := (al HB2.out (.cells #[x, y] tPg)).size; omega) (fun e => HI.out.ne e.symm)).trans (HI.out.below (al HB2.out _)).hd); clear hown2 hb2 hc2 hn2 hr2) | (go_at_call 64; refine Calls.mono (HC1.out _ (by exact (Below.refl _ _).drew.drew)) ?_; rintro e w1 ⟨v1, rfl, hown1, hb1⟩; have HB1 : Hid (Below w.heap.size w w1) := below_next (Below.refl _ _).drew.drew hb1; obtain ⟨a1, c1, e1, hc1, hn1, hr1⟩ := OwnE.val hown1; rw [← HK1.out] at e1 hc1; subst e1; have HR1 : Hid (RdE w1 a1 (xs.take k)) := hr1; have HQ1 : Hid (k1 ≤ c1 ∧ (a1 = none → c1 = 0)) := ⟨hc1, hn1⟩; have hcgA : w1.cell? ⟨g, 1, none⟩ = some (.slice (some ⟨rb, 0, none⟩) N cap) := (HB1.out.cell hgl).trans hcg1; clear hown1 hb1 hc1 hn1 hr1)
      go_wp2_with fail
      refine hK.out _ _ (by exact trivial) ?_
      clear hK K
      intro hHeld2
      clear hHeld
      have hHeld := hHeld2
      clear hHeld2
      try simp only [Act.put, List.setIfInBounds_toArray, List.set_cons_zero, List.set_cons_succ]
      refine wpAnyH_ready (rs := [4, 12]) (by kernel_rfl) (by simp) ?_
      refine AllReadyH.cons (o := _) rfl (fun K hK => ?_) ?_
      focus
        rw [if_pos (by rfl)]
        refine val_wp 39 (v := ?_) rfl ?_ ?_
        rotate_left
        · (go_simp; try with_reducible rfl)
        refine hK.out _ _ (by exact trivial) ?_
        clear hK K
        intro hHeld2
        clear hHeld
        have hHeld := hHeld2
        clear hHeld2
        simp only [Act.put, List.setIfInBounds_toArray, List.set_cons_zero, List.set_cons_succ]
        refine run_at (i := 12) rfl (by kernel_rfl) (by rfl) (fun K hK => ?_)
        simp only [List.getElem_toArray, List.getElem_cons_zero, List.getElem_cons_succ]
        go_simp
        go_wp2_with fail
        refine hK.out _ _ (by exact trivial) ?_
        clear hK K
        intro hHeld2
        clear hHeld
        have hHeld := hHeld2
        clear hHeld2
        try simp only [Act.put, List.setIfInBounds_toArray, List.set_cons_zero, List.set_cons_succ]
        refine run_at (i := 13) rfl (by kernel_rfl) (by rfl) (fun K hK => ?_)
        simp only [List.getElem_toArray, List.getElem_cons_zero, List.getElem_cons_succ]
        go_simp
        first | (go_at_call 63; refine Calls.mono (split_t (HROW3.out _ _) HONE.out p p1 HP1.out HPN.out w2.heap.size _ _ (heap_alloc_new w2 _) HNE.out rfl rfl (by have := HN.out; omega)) ?_; rintro e w4 ⟨g', c', rfl, hown4, hgr4, hwh4⟩; have hd4 := (HD3.out _ _ w4 hgr4); have hc4 : w4.cell? ⟨g, 1, none⟩ = some (.slice (some ⟨rb, 0, none⟩) N cap) := (by rw [cell_of_row _ _ _ _ _ _ hd4, HN.out]; rfl); have hf4 : w4.frozen? ⟨g, 1, none⟩ = false := (by simp [World.frozen?, hd4]); have HO4 : Hid _ := hown4; have HG4 : Hid _ := hgr4; have HW4 : Hid _ := hwh4; clear hown4 hgr4 hwh4 hd4) | (go_at_call 64; refine Calls.mono (HC2.out _ HB1.out) ?_; rintro e w2 ⟨v2, rfl, hown2, hb2⟩; have HB2 : Hid (Below w.heap.size w w2) := below_next HB1.out hb2; obtain ⟨a2, c2, e2, hc2, hn2, hr2⟩ := OwnE.val hown2; rw [← HK2.out] at e2 hc2; subst e2; have HR12 : Hid (RdE w2 a1 (xs.take k)) := HR1.out.below hb2; have HR2 : Hid (RdE w2 a2 (xs.drop k)) := hr2; have HQ2 : Hid (k2 ≤ c2 ∧ (a2 = none → c2 = 0)) := ⟨hc2, hn2⟩; have hcg2 : w2.cell? ⟨g, 1, none⟩ = some (.slice (some ⟨rb, 0, none⟩) N cap) := (HB2.out.cell hgl).trans hcg1; have hgl2 : g < w2.heap.size := Nat.lt_of_lt_of_le hgl HB2.out.size; have HROW3 : Hid (∀ x y, (w2.alloc (.cells #[x, y] tPg)).ownsRow 0 tPg 1 (.slice (some ⟨rb, 0, none⟩) N cap) N vs) := (fun x y => (by rw [HN.out]; exact (HI.out.below (al HB2.out _)).row)); have HNE : Hid (rb ≠ w2.heap.size) := (fun e => (by have h9 := (World.ownsRow.lt HI.out.row rb rfl).2; have := HB2.out.size; omega)); have HD3 : Hid (∀ x y u, (w2.alloc (.cells #[x, y] tPg)).grownBy u (some rb) → u.heap[g]? = some (.cells #[.int .i64 (S : Int), .slice (some ⟨rb, 0, none⟩) P.length cap] tIx (0, 0))) := (fun x y u hu => (hu.block g (by have := (al HB2.out (.cells #[x, y] tPg)).size; omega) (fun e => HI.out.ne e.symm)).trans (HI.out.below (al HB2.out _)).hd); clear hown2 hb2 hc2 hn2 hr2) | (go_at_call 64; refine Calls.mono (HC1.out _ (by exact (Below.refl _ _).drew.drew)) ?_; rintro e w1 ⟨v1, rfl, hown1, hb1⟩; have HB1 : Hid (Below w.heap.size w w1) := below_next (Below.refl _ _).drew.drew hb1; obtain ⟨a1, c1, e1, hc1, hn1, hr1⟩ := OwnE.val hown1; rw [← HK1.out] at e1 hc1; subst e1; have HR1 : Hid (RdE w1 a1 (xs.take k)) := hr1; have HQ1 : Hid (k1 ≤ c1 ∧ (a1 = none → c1 = 0)) := ⟨hc1, hn1⟩; have hcgA : w1.cell? ⟨g, 1, none⟩ = some (.slice (some ⟨rb, 0, none⟩) N cap) := (HB1.out.cell hgl).trans hcg1; clear hown1 hb1 hc1 hn1 hr1)
        go_wp2_with fail
        refine hK.out _ _ (by exact trivial) ?_
        clear hK K
        intro hHeld2
        clear hHeld
        have hHeld := hHeld2
        clear hHeld2
        try simp only [Act.put, List.setIfInBounds_toArray, List.set_cons_zero, List.set_cons_succ]
        refine take_at (i := 14) 49 (v := ?_) rfl rfl (by kernel_rfl) (by kernel_rfl) (by kernel_rfl) (fun _ _ _ h => h) (by rfl) ?_ hHeld ?_
        rotate_left
        · (intro w hSw; (try dsimp only at hSw); go_simp; try with_reducible rfl)
        simp only [Act.put, List.setIfInBounds_toArray, List.set_cons_zero, List.set_cons_succ]
        refine take_at (i := 15) 50 (v := ?_) rfl rfl (by kernel_rfl) (by kernel_rfl) (by kernel_rfl) (fun _ _ _ h => h) (by rfl) ?_ hHeld ?_
        rotate_left
        · (intro w hSw; (try dsimp only at hSw); go_simp; try with_reducible rfl)
        simp only [Act.put, List.setIfInBounds_toArray, List.set_cons_zero, List.set_cons_succ]
        refine run_at (i := 16) rfl (by kernel_rfl) (by rfl) (fun K hK => ?_)
        simp only [List.getElem_toArray, List.getElem_cons_zero, List.getElem_cons_succ]
        go_simp
        go_wp2_with fail
        refine hK.out _ _ (by exact trivial) ?_
        clear hK K
        intro hHeld2
        clear hHeld
        have hHeld := hHeld2
        clear hHeld2
        try simp only [Act.put, List.setIfInBounds_toArray, List.set_cons_zero, List.set_cons_succ]
        refine wpAnyH_done (by kernel_rfl) ?_ _
        refine NoPanic.normal ?_
      rotate_left 1
      refine AllReadyH.cons (o := _) rfl (fun K hK => ?_) AllReadyH.nil
      focus
        rw [if_pos (by rfl)]
        simp only [List.getElem_toArray, List.getElem_cons_zero, List.getElem_cons_succ]
        go_simp
        go_wp2_with fail
        refine hK.out _ _ (by exact trivial) ?_
        clear hK K
        intro hHeld2
        clear hHeld
        have hHeld := hHeld2
        clear hHeld2
        try simp only [Act.put, List.setIfInBounds_toArray, List.set_cons_zero, List.set_cons_succ]
        refine val_at (i := 4) 39 (v := ?_) rfl rfl (by kernel_rfl) (by rfl) ?_ ?_ ?_
        rotate_left
        · (go_simp; try with_reducible rfl)
        · (exact trivial)
        intro hHeld2
        clear hHeld
        have hHeld := hHeld2
        clear hHeld2
        simp only [Act.put, List.setIfInBounds_toArray, List.set_cons_zero, List.set_cons_succ]
        refine run_at (i := 13) rfl (by kernel_rfl) (by rfl) (fun K hK => ?_)
        simp only [List.getElem_toArray, List.getElem_cons_zero, List.getElem_cons_succ]
        go_simp
        first | (go_at_call 63; refine Calls.mono (split_t (HROW3.out _ _) HONE.out p p1 HP1.out HPN.out w2.heap.size _ _ (heap_alloc_new w2 _) HNE.out rfl rfl (by have := HN.out; omega)) ?_; rintro e w4 ⟨g', c', rfl, hown4, hgr4, hwh4⟩; have hd4 := (HD3.out _ _ w4 hgr4); have hc4 : w4.cell? ⟨g, 1, none⟩ = some (.slice (some ⟨rb, 0, none⟩) N cap) := (by rw [cell_of_row _ _ _ _ _ _ hd4, HN.out]; rfl); have hf4 : w4.frozen? ⟨g, 1, none⟩ = false := (by simp [World.frozen?, hd4]); have HO4 : Hid _ := hown4; have HG4 : Hid _ := hgr4; have HW4 : Hid _ := hwh4; clear hown4 hgr4 hwh4 hd4) | (go_at_call 64; refine Calls.mono (HC2.out _ HB1.out) ?_; rintro e w2 ⟨v2, rfl, hown2, hb2⟩; have HB2 : Hid (Below w.heap.size w w2) := below_next HB1.out hb2; obtain ⟨a2, c2, e2, hc2, hn2, hr2⟩ := OwnE.val hown2; rw [← HK2.out] at e2 hc2; subst e2; have HR12 : Hid (RdE w2 a1 (xs.take k)) := HR1.out.below hb2; have HR2 : Hid (RdE w2 a2 (xs.drop k)) := hr2; have HQ2 : Hid (k2 ≤ c2 ∧ (a2 = none → c2 = 0)) := ⟨hc2, hn2⟩; have hcg2 : w2.cell? ⟨g, 1, none⟩ = some (.slice (some ⟨rb, 0, none⟩) N cap) := (HB2.out.cell hgl).trans hcg1; have hgl2 : g < w2.heap.size := Nat.lt_of_lt_of_le hgl HB2.out.size; have HROW3 : Hid (∀ x y, (w2.alloc (.cells #[x, y] tPg)).ownsRow 0 tPg 1 (.slice (some ⟨rb, 0, none⟩) N cap) N vs) := (fun x y => (by rw [HN.out]; exact (HI.out.below (al HB2.out _)).row)); have HNE : Hid (rb ≠ w2.heap.size) := (fun e => (by have h9 := (World.ownsRow.lt HI.out.row rb rfl).2; have := HB2.out.size; omega)); have HD3 : Hid (∀ x y u, (w2.alloc (.cells #[x, y] tPg)).grownBy u (some rb) → u.heap[g]? = some (.cells #[.int .i64 (S : Int), .slice (some ⟨rb, 0, none⟩) P.length cap] tIx (0, 0))) := (fun x y u hu => (hu.block g (by have := (al HB2.out (.cells #[x, y] tPg)).size; omega) (fun e => HI.out.ne e.symm)).trans (HI.out.below (al HB2.out _)).hd); clear hown2 hb2 hc2 hn2 hr2) | (go_at_call 64; refine Calls.mono (HC1.out _ (by exact (Below.refl _ _).drew.drew)) ?_; rintro e w1 ⟨v1, rfl, hown1, hb1⟩; have HB1 : Hid (Below w.heap.size w w1) := below_next (Below.refl _ _).drew.drew hb1; obtain ⟨a1, c1, e1, hc1, hn1, hr1⟩ := OwnE.val hown1; rw [← HK1.out] at e1 hc1; subst e1; have HR1 : Hid (RdE w1 a1 (xs.take k)) := hr1; have HQ1 : Hid (k1 ≤ c1 ∧ (a1 = none → c1 = 0)) := ⟨hc1, hn1⟩; have hcgA : w1.cell? ⟨g, 1, none⟩ = some (.slice (some ⟨rb, 0, none⟩) N cap) := (HB1.out.cell hgl).trans hcg1; clear hown1 hb1 hc1 hn1 hr1)
        go_wp2_with fail
        refine hK.out _ _ (by exact trivial) ?_
        clear hK K
        intro hHeld2
        clear hHeld
        have hHeld := hHeld2
        clear hHeld2
        try simp only [Act.put, List.setIfInBounds_toArray, List.set_cons_zero, List.set_cons_succ]
        refine take_at (i := 14) 49 (v := ?_) rfl rfl (by kernel_rfl) (by kernel_rfl) (by kernel_rfl) (fun _ _ _ h => h) (by rfl) ?_ hHeld ?_
        rotate_left
        · (intro w hSw; (try dsimp only at hSw); go_simp; try with_reducible rfl)
        simp only [Act.put, List.setIfInBounds_toArray, List.set_cons_zero, List.set_cons_succ]
        refine take_at (i := 15) 50 (v := ?_) rfl rfl (by kernel_rfl) (by kernel_rfl) (by kernel_rfl) (fun _ _ _ h => h) (by rfl) ?_ hHeld ?_
        rotate_left
        · (intro w hSw; (try dsimp only at hSw); go_simp; try with_reducible rfl)
        simp only [Act.put, List.setIfInBounds_toArray, List.set_cons_zero, List.set_cons_succ]
        refine run_at (i := 16) rfl (by kernel_rfl) (by rfl) (fun K hK => ?_)
        simp only [List.getElem_toArray, List.getElem_cons_zero, List.getElem_cons_succ]
        go_simp
        go_wp2_with fail
        refine hK.out _ _ (by exact trivial) ?_
        clear hK K
        intro hHeld2
        clear hHeld
        have hHeld := hHeld2
        clear hHeld2
        try simp only [Act.put, List.setIfInBounds_toArray, List.set_cons_zero, List.set_cons_succ]
        refine wpAnyH_done (by kernel_rfl) ?_ _
        refine NoPanic.normal ?_
  all_goals
    go_wp2
    refine bodyPost_end (results_none rfl _ _ _) rfl ?_
    have hln : (repL P p p1 [xs.take k, xs.drop k]).length = N + 1 := by rw [repL_len (by have := HN.out; have := HPN.out; omega)]; have := HN.out; have := HPN.out; have := HP1.out; simp; omega
    have h9 := (HI.out.below (al HB2.out (.cells #[.slice a1 k1 c1, .slice a2 k2 c2] tPg))).repRow HG4.out p p1 (by have := HN.out; have := HPN.out; omega) [xs.take k, xs.drop k] [.slice a1 k1 c1, .slice a2 k2 c2] rfl (fun t q e => by
      have hk9 : ∀ {a : Option Addr} {ys : List Ent}, RdE w2 a ys → RdE w4 a ys := fun h8 => (h8.below (al (Below.refl _ _) _)).kept (Chg.of_grown (F := foot g (.slice (some ⟨rb, 0, none⟩) P.length cap)) HG4.out (fun b e => .inr e)) (fun b e => (HI.out.below (al HB2.out _)).noF b e)
      match t, e with
      | 0, e => cases e; exact ⟨a1, c1, by rw [← HK1.out]; rfl, by rw [← HK1.out]; exact HQ1.out.1, HQ1.out.2, hk9 HR12.out⟩
      | 1, e => cases e; exact ⟨a2, c2, by rw [← HK2.out]; rfl, by rw [← HK2.out]; exact HQ2.out.1, HQ2.out.2, hk9 HR2.out⟩
      | t + 2, e => simp at e) (by rw [hln]; exact HO4.out)
    refine ⟨rfl, ⟨_, _, h9.1, ?_⟩, (Chg.of_below (al HB2.out _)).trans h9.2 (fun i hi => .inl hi)⟩
    rcases HW4.out with e | e
    · left; rw [e]; rfl
    · right; exact ⟨g', rfl, Nat.le_trans (al HB2.out (.cells #[.slice a1 k1 c1, .slice a2 k2 c2] tPg)).size e⟩
end
end Go.Proofs.Ytibolgpaolnheaa.Str
