import Derived.Test.YtibolgpaolnheacQD9
namespace Go.Proofs.Ytibolgpaolnheac
set_option linter.unusedVariables false
set_option linter.unusedSimpArgs false
open Go.RowKit
variable {w w' w5 : World} {g S : Nat} {P : List (List Ent)} {v v' : Value} {vs : List Value}
theorem repL_get {α : Type} {l new : List α} {i j : Nat} (hi : i ≤ l.length) (t : Nat) : (repL l i j new)[t]? = if t < i then l[t]? else if t < i + new.length then new[t - i]? else l[t - i - new.length + j]? := by
  unfold repL
  by_cases h1 : t < i
  · rw [if_pos h1, List.append_assoc, List.getElem?_append_left (by rw [List.length_take]; omega), List.getElem?_take, if_pos h1]
  · rw [if_neg h1]
    by_cases h2 : t < i + new.length
    · rw [if_pos h2, List.getElem?_append_left (by rw [List.length_append, List.length_take]; omega), List.getElem?_append_right (by rw [List.length_take]; omega), List.length_take, Nat.min_eq_left hi]
    · rw [if_neg h2, List.getElem?_append_right (by rw [List.length_append, List.length_take]; omega), List.getElem?_drop, List.length_append, List.length_take, Nat.min_eq_left hi]
      congr 1
      omega
theorem IdxAt.one (h : IdxAt w g S P v vs) : ∀ u ∈ vs, u.oneCell' = true := fun u hu => by
  obtain ⟨t, ht, e⟩ := List.getElem_of_mem hu
  obtain ⟨a, c, h1, -⟩ := h.pg t (by rw [← h.len]; exact ht)
  rw [List.getElem?_eq_getElem ht, e] at h1
  cases h1
  rfl
/-- what a page in a row is -/
def PgIs (w : World) (x : Option Value) (q : Option (List Ent)) : Prop := ∀ p, q = some p → ∃ a c, x = some (.slice a p.length c) ∧ p.length ≤ c ∧ (a = none → c = 0) ∧ RdE w a p
theorem IdxAt.pgs (h : IdxAt w g S P v vs) (t : Nat) : PgIs w vs[t]? P[t]? := fun p e => by
  obtain ⟨ht, rfl⟩ := List.getElem?_eq_some_iff.1 e
  exact h.pg t ht
theorem IdxAt.repRow (h : IdxAt w g S P v vs) (hg : w.grownBy w5 v.ownBlock) (i j : Nat) (hi : i ≤ P.length) (Q : List (List Ent)) (qs : List Value) (hql : qs.length = Q.length)
    (hq : ∀ t : Nat, PgIs w5 qs[t]? Q[t]?) (hrow : w5.ownsRow 0 tPg 1 v' (repL P i j Q).length (repL vs i j qs)) :
    IdxAt (w5.setCell ⟨g, 1, none⟩ v') g S (repL P i j Q) v' (repL vs i j qs) ∧ Chg (foot g v) w (w5.setCell ⟨g, 1, none⟩ v') := by
  refine h.setRow hg hrow fun t ht => ?_
  have hk : ∀ t : Nat, PgIs w5 vs[t]? P[t]? := fun t p e => by
    obtain ⟨a, c, h1, h2, h3, h4⟩ := h.pgs t p e
    exact ⟨a, c, h1, h2, h3, h4.kept (Chg.of_grown (F := foot g v) hg (fun b e => .inr e)) (fun b e => h.noF b e)⟩
  have e1 := repL_get (new := Q) (j := j) hi t
  have e2 := repL_get (l := vs) (new := qs) (i := i) (j := j) (by rw [h.len]; exact hi) t
  rw [hql] at e2
  rw [List.getElem?_eq_getElem ht] at e1
  rw [e2]
  split at e1
  · rename_i c1; rw [if_pos c1]; exact hk _ _ e1.symm
  · rename_i c1
    rw [if_neg c1]
    split at e1
    · rename_i c2; rw [if_pos c2]; exact hq _ _ e1.symm
    · rename_i c2; rw [if_neg c2]; exact hk _ _ e1.symm
section
set_option maxRecDepth 20000
set_option maxHeartbeats 3200000
/-- a page that is too long becomes two -/
theorem replace_x (h : IdxAt w g S P v vs) (p p1 : Nat) (hp : p < P.length) (hp1 : p1 = p + 1) (b4 o4 n c : Nat) (xs : List Ent) (hn : n = xs.length) (hx : RdE w (some ⟨b4, o4, none⟩) xs) (hc : n ≤ c) (hl : S < n) (hn2 : n ≤ 300) (hS : 1 ≤ S ∧ S ≤ 64) (hPl : P.length ≤ 4398046511104) (k : Nat) (hk : k = (S + 1) / 2) :
    Calls Try.prog 40 #[.pointer (some ⟨g, 0, none⟩), .int .i64 (p : Int), .slice (some ⟨b4, o4, none⟩) n c] w fun e w' => e = .returned (.tuple #[]) ∧ (∃ v' vs', IdxAt w' g S (repL P p p1 [xs.take k, xs.drop k]) v' vs' ∧ (v'.ownBlock = v.ownBlock ∨ ∃ b, v'.ownBlock = some b ∧ w.heap.size ≤ b)) ∧ Chg (foot g v) w w' := by
  have hcg0 : w.cell? ⟨g, 0, none⟩ = some (.int .i64 (S : Int)) := by rw [cell_of_row _ _ _ _ _ _ h.hd]; rfl
  rcases h.row.2 with ⟨e, h0⟩ | ⟨rb, cap, cur, e, hB, hg, hn1, hm, r⟩
  · omega
  subst e
  obtain ⟨N, hN⟩ : ∃ N, N = P.length := ⟨_, rfl⟩
  have HI : Hid (IdxAt w g S P (.slice (some ⟨rb, 0, none⟩) P.length cap) vs) := h
  rw [← hN] at h
  have hcg1 : w.cell? ⟨g, 1, none⟩ = some (.slice (some ⟨rb, 0, none⟩) N cap) := by rw [hN, cell_of_row _ _ _ _ _ _ HI.out.hd]; rfl
  have hli : ¬ ((n : Int) ≤ (S : Int)) := by omega
  obtain ⟨s1, hs1⟩ : ∃ s1, s1 = S + 1 := ⟨_, rfl⟩
  have hw0 : IntKind.i64.wrap ((S : Int) + 1) = (s1 : Int) := by rw [IntKind.wrap_i64]; omega
  have hw1 : IntKind.i64.wrap ((p : Int) + 1) = (p1 : Int) := by rw [IntKind.wrap_i64]; omega
  have hkn : (k : Int) ≤ (n : Int) := by omega
  have hk0 : (0 : Int) ≤ (k : Int) := by omega
  have hknn : k ≤ n := by omega
  have hkc : (k : Int) ≤ (c : Int) := by omega
  have hkcn : k ≤ c := by omega
  have hck : ¬ c = k := by omega
  have HX : Hid (RdE w (some ⟨b4, o4, none⟩) xs) := hx
  have HONE : Hid _ := h.one
  have HN : Hid (N = P.length) := hN
  have HNX : Hid (n = xs.length) := hn
  have HK : Hid (k = (S + 1) / 2) := hk
  have HP1 : Hid (p1 = p + 1) := hp1
  have HPN : Hid (p < N) := (show p < N by omega)
  clear h hx hn hN hk hp1 hB hg hn1 hm r
  go_enter Try.func40, Try.ntmps40
  go_wp2_with fail
  rw [show ((S : Int) + 1) / 2 = (k : Int) by have := HK.out; omega]
  have HC1 : Hid (∀ u, Below w.heap.size w u → Calls Try.prog 61 #[.slice (some ⟨b4, o4, none⟩) k c] u fun e u' => ∃ v, e = .returned v ∧ OwnE u' u.heap.size v (xs.take k) ∧ Below u.heap.size u u') := fun u hu => cloneE_t _ _ _ _ u (by rw [List.length_take, ← HNX.out]; omega) ((HX.out.below hu).take k) (fun e => by cases e) (by omega)
  have HC2 : Hid (∀ u, Below w.heap.size w u → Calls Try.prog 61 #[.slice (some ⟨b4, o4 + k * 3, none⟩) (n - k) (c - k)] u fun e u' => ∃ v, e = .returned v ∧ OwnE u' u.heap.size v (xs.drop k) ∧ Below u.heap.size u u') := fun u hu => cloneE_t _ _ _ _ u (by rw [List.length_drop, ← HNX.out]) ((HX.out.below hu).drop k) (fun e => by cases e) (by omega)
  obtain ⟨k1, hk1⟩ : ∃ k1, k1 = (xs.take k).length := ⟨_, rfl⟩
  obtain ⟨k2, hk2⟩ : ∃ k2, k2 = (xs.drop k).length := ⟨_, rfl⟩
  have HK1 : Hid _ := hk1
  have HK2 : Hid _ := hk2
  clear hk1 hk2
  have hgl : g < w.heap.size := (Array.getElem?_eq_some_iff.1 HI.out.hd).1
  refine wp_region_noPanic ?_
  refine wp_region_held_drew (S := (fun _ => True)) (by kernel_rfl) (by exact trivial) (fun hHeld => ?_)
  refine take_at (i := 0) 29 (v := ?_) rfl rfl (by kernel_rfl) (by kernel_rfl) (by kernel_rfl) (fun _ _ _ h => h) (by rfl) ?_ hHeld ?_
  rotate_left
  · (intro w hSw; (try dsimp only at hSw); go_simp; try with_reducible rfl)
  simp only [Act.put, List.setIfInBounds_toArray, List.set_cons_zero, List.set_cons_succ]
  refine take_at (i := 1) 30 (v := ?_) rfl rfl (by kernel_rfl) (by kernel_rfl) (by kernel_rfl) (fun _ _ _ h => h) (by rfl) ?_ hHeld ?_
  rotate_left
  · (intro w hSw; (try dsimp only at hSw); go_simp; try with_reducible rfl)
  simp only [Act.put, List.setIfInBounds_toArray, List.set_cons_zero, List.set_cons_succ]
  refine take_at (i := 2) 31 (v := ?_) rfl rfl (by kernel_rfl) (by kernel_rfl) (by kernel_rfl) (fun _ _ _ h => h) (by rfl) ?_ hHeld ?_
  rotate_left
  · (intro w hSw; (try dsimp only at hSw); go_simp; try with_reducible rfl)
  simp only [Act.put, List.setIfInBounds_toArray, List.set_cons_zero, List.set_cons_succ]
  refine take_at (i := 3) 32 (v := ?_) rfl rfl (by kernel_rfl) (by kernel_rfl) (by kernel_rfl) (fun _ _ _ h => h) (by rfl) ?_ hHeld ?_
  rotate_left
  · (intro w hSw; (try dsimp only at hSw); go_simp; try with_reducible rfl)
  simp only [Act.put, List.setIfInBounds_toArray, List.set_cons_zero, List.set_cons_succ]
  refine take_at (i := 4) 33 (v := ?_) rfl rfl (by kernel_rfl) (by kernel_rfl) (by kernel_rfl) (fun _ _ _ h => h) (by rfl) ?_ hHeld ?_
  rotate_left
  · (intro w hSw; (try dsimp only at hSw); go_simp; try with_reducible rfl)
  simp only [Act.put, List.setIfInBounds_toArray, List.set_cons_zero, List.set_cons_succ]
  refine take_at (i := 5) 34 (v := ?_) rfl rfl (by kernel_rfl) (by kernel_rfl) (by kernel_rfl) (fun _ _ _ h => h) (by rfl) ?_ hHeld ?_
  rotate_left
  · (intro w hSw; (try dsimp only at hSw); go_simp; try with_reducible rfl)
  simp only [Act.put, List.setIfInBounds_toArray, List.set_cons_zero, List.set_cons_succ]
  refine take_at (i := 6) 7 (v := ?_) rfl rfl (by kernel_rfl) (by kernel_rfl) (by kernel_rfl) (fun _ _ _ h => h) (by rfl) ?_ hHeld ?_
  rotate_left
  · (intro w hSw; (try dsimp only at hSw); go_simp; try with_reducible rfl)
  simp only [Act.put, List.setIfInBounds_toArray, List.set_cons_zero, List.set_cons_succ]
  refine take_at (i := 7) 8 (v := ?_) rfl rfl (by kernel_rfl) (by kernel_rfl) (by kernel_rfl) (fun _ _ _ h => h) (by rfl) ?_ hHeld ?_
  rotate_left
  · (intro w hSw; (try dsimp only at hSw); go_simp; try with_reducible rfl)
  simp only [Act.put, List.setIfInBounds_toArray, List.set_cons_zero, List.set_cons_succ]
  refine wpAnyH_done (by kernel_rfl) ?_ _
  refine NoPanic.normal ?_
  go_wp2_with fail
  refine wp_region_noPanic ?_
  refine wp_region_held_drew (S := (fun _ => True)) (by kernel_rfl) (by exact trivial) (fun hHeld => ?_)
  refine take_at (i := 0) 35 (v := ?_) rfl rfl (by kernel_rfl) (by kernel_rfl) (by kernel_rfl) (fun _ _ _ h => h) (by rfl) ?_ hHeld ?_
  rotate_left
  · (intro w hSw; (try dsimp only at hSw); go_simp; try with_reducible rfl)
  simp only [Act.put, List.setIfInBounds_toArray, List.set_cons_zero, List.set_cons_succ]
  refine take_at (i := 1) 36 (v := ?_) rfl rfl (by kernel_rfl) (by kernel_rfl) (by kernel_rfl) (fun _ _ _ h => h) (by rfl) ?_ hHeld ?_
  rotate_left
  · (intro w hSw; (try dsimp only at hSw); go_simp; try with_reducible rfl)
  simp only [Act.put, List.setIfInBounds_toArray, List.set_cons_zero, List.set_cons_succ]
  refine take_at (i := 2) 37 (v := ?_) rfl rfl (by kernel_rfl) (by kernel_rfl) (by kernel_rfl) (fun _ _ _ h => h) (by rfl) ?_ hHeld ?_
  rotate_left
  · (intro w hSw; (try dsimp only at hSw); go_simp; try with_reducible rfl)
  simp only [Act.put, List.setIfInBounds_toArray, List.set_cons_zero, List.set_cons_succ]
  refine take_at (i := 3) 38 (v := ?_) rfl rfl (by kernel_rfl) (by kernel_rfl) (by kernel_rfl) (fun _ _ _ h => h) (by rfl) ?_ hHeld ?_
  rotate_left
  · (intro w hSw; (try dsimp only at hSw); go_simp; try with_reducible rfl)
  simp only [Act.put, List.setIfInBounds_toArray, List.set_cons_zero, List.set_cons_succ]
  refine take_at (i := 5) 40 (v := ?_) rfl rfl (by kernel_rfl) (by kernel_rfl) (by kernel_rfl) (fun _ _ _ h => h) (by rfl) ?_ hHeld ?_
  rotate_left
  · (intro w hSw; (try dsimp only at hSw); go_simp; try with_reducible rfl)
  simp only [Act.put, List.setIfInBounds_toArray, List.set_cons_zero, List.set_cons_succ]
  refine take_at (i := 6) 41 (v := ?_) rfl rfl (by kernel_rfl) (by kernel_rfl) (by kernel_rfl) (fun _ _ _ h => h) (by rfl) ?_ hHeld ?_
  rotate_left
  · (intro w hSw; (try dsimp only at hSw); go_simp; try with_reducible rfl)
  simp only [Act.put, List.setIfInBounds_toArray, List.set_cons_zero, List.set_cons_succ]
  refine take_at (i := 7) 42 (v := ?_) rfl rfl (by kernel_rfl) (by kernel_rfl) (by kernel_rfl) (fun _ _ _ h => h) (by rfl) ?_ hHeld ?_
  rotate_left
  · (intro w hSw; (try dsimp only at hSw); go_simp; try with_reducible rfl)
  simp only [Act.put, List.setIfInBounds_toArray, List.set_cons_zero, List.set_cons_succ]
  refine take_at (i := 8) 43 (v := ?_) rfl rfl (by kernel_rfl) (by kernel_rfl) (by kernel_rfl) (fun _ _ _ h => h) (by rfl) ?_ hHeld ?_
  rotate_left
  · (intro w hSw; (try dsimp only at hSw); go_simp; try with_reducible rfl)
  simp only [Act.put, List.setIfInBounds_toArray, List.set_cons_zero, List.set_cons_succ]
  refine take_at (i := 10) 45 (v := ?_) rfl rfl (by kernel_rfl) (by kernel_rfl) (by kernel_rfl) (fun _ _ _ h => h) (by rfl) ?_ hHeld ?_
  rotate_left
  · (intro w hSw; (try dsimp only at hSw); go_simp; try with_reducible rfl)
  simp only [Act.put, List.setIfInBounds_toArray, List.set_cons_zero, List.set_cons_succ]
  refine wpAnyH_ready (rs := [4, 9]) (by kernel_rfl) (by simp) ?_
  refine AllReadyH.cons (o := _) rfl (fun K hK => ?_) ?_
  focus
    rw [if_pos (by rfl)]
    refine val_wp 39 (v := ?_) rfl ?_ ?_
    rotate_left
    · (go_simp; try with_reducible rfl)
    refine hK.out _ _ (by exact trivial) ?_
    clear hK K
    intro hHeld2
    clear hHeld
    have hHeld := hHeld2
    clear hHeld2
    simp only [Act.put, List.setIfInBounds_toArray, List.set_cons_zero, List.set_cons_succ]
    refine run_at (i := 9) rfl (by kernel_rfl) (by rfl) (fun K hK => ?_)
    simp only [List.getElem_toArray, List.getElem_cons_zero, List.getElem_cons_succ]
    go_simp
    first | (go_at_call 60; refine Calls.mono (split_t (HROW3.out _ _) HONE.out p p1 HP1.out HPN.out w2.heap.size _ _ (heap_alloc_new w2 _) HNE.out rfl rfl (by have := HN.out; omega)) ?_; rintro e w4 ⟨g', c', rfl, hown4, hgr4, hwh4⟩; have hd4 := (HD3.out _ _ w4 hgr4); have hc4 : w4.cell? ⟨g, 1, none⟩ = some (.slice (some ⟨rb, 0, none⟩) N cap) := (by rw [cell_of_row _ _ _ _ _ _ hd4, HN.out]; rfl); have hf4 : w4.frozen? ⟨g, 1, none⟩ = false := (by simp [World.frozen?, hd4]); have HO4 : Hid _ := hown4; have HG4 : Hid _ := hgr4; have HW4 : Hid _ := hwh4; clear hown4 hgr4 hwh4 hd4) | (go_at_call 61; refine Calls.mono (HC2.out _ HB1.out) ?_; rintro e w2 ⟨v2, rfl, hown2, hb2⟩; have HB2 : Hid (Below w.heap.size w w2) := below_next HB1.out hb2; obtain ⟨a2, c2, e2, hc2, hn2, hr2⟩ := OwnE.val hown2; rw [← HK2.out] at e2 hc2; subst e2; have HR12 : Hid (RdE w2 a1 (xs.take k)) := HR1.out.below hb2; have HR2 : Hid (RdE w2 a2 (xs.drop k)) := hr2; have HQ2 : Hid (k2 ≤ c2 ∧ (a2 = none → c2 = 0)) := ⟨hc2, hn2⟩; have hcg2 : w2.cell? ⟨g, 1, none⟩ = some (.slice (some ⟨rb, 0, none⟩) N cap) := (HB2.out.cell hgl).trans hcg1; have hgl2 : g < w2.heap.size := Nat.lt_of_lt_of_le hgl HB2.out.size; have HROW3 : Hid (∀ x y, (w2.alloc (.cells #[x, y] tPg)).ownsRow 0 tPg 1 (.slice (some ⟨rb, 0, none⟩) N cap) N vs) := (fun x y => (by rw [HN.out]; exact (HI.out.below (al HB2.out _)).row)); have HNE : Hid (rb ≠ w2.heap.size) := (fun e => (by have h9 := (World.ownsRow.lt HI.out.row rb rfl).2; have := HB2.out.size; omega)); have HD3 : Hid (∀ x y u, (w2.alloc (.cells #[x, y] tPg)).grownBy u (some rb) → u.heap[g]? = some (.cells #[.int .i64 (S : Int), .slice (some ⟨rb, 0, none⟩) P.length cap] tIx (0, 0))) := (fun x y u hu => (hu.block g (by have := (al HB2.out (.cells #[x, y] tPg)).size; omega) (fun e => HI.out.ne e.symm)).trans (HI.out.below (al HB2.out _)).hd); clear hown2 hb2 hc2 hn2 hr2) | (go_at_call 61; refine Calls.mono (HC1.out _ (by exact (Below.refl _ _).drew.drew)) ?_; rintro e w1 ⟨v1, rfl, hown1, hb1⟩; have HB1 : Hid (Below w.heap.size w w1) := below_next (Below.refl _ _).drew.drew hb1; obtain ⟨a1, c1, e1, hc1, hn1, hr1⟩ := OwnE.val hown1; rw [← HK1.out] at e1 hc1; subst e1; have HR1 : Hid (RdE w1 a1 (xs.take k)) := hr1; have HQ1 : Hid (k1 ≤ c1 ∧ (a1 = none → c1 = 0)) := ⟨hc1, hn1⟩; have hcgA : w1.cell? ⟨g, 1, none⟩ = some (.slice (some ⟨rb, 0, none⟩) N cap) := (HB1.out.cell hgl).trans hcg1; clear hown1 hb1 hc1 hn1 hr1)
    go_wp2_with fail
    refine hK.out _ _ (by exact trivial) ?_
    clear hK K
    intro hHeld2
    clear hHeld
    have hHeld := hHeld2
    clear hHeld2
    try simp only [Act.put, List.setIfInBounds_toArray, List.set_cons_zero, List.set_cons_succ]
    refine run_at (i := 11) rfl (by kernel_rfl) (by rfl) (fun K hK => ?_)
    simp only [List.getElem_toArray, List.getElem_cons_zero, List.getElem_cons_succ]
    go_simp
    first | (go_at_call 60; refine Calls.mono (split_t (HROW3.out _ _) HONE.out p p1 HP1.out HPN.out w2.heap.size _ _ (heap_alloc_new w2 _) HNE.out rfl rfl (by have := HN.out; omega)) ?_; rintro e w4 ⟨g', c', rfl, hown4, hgr4, hwh4⟩; have hd4 := (HD3.out _ _ w4 hgr4); have hc4 : w4.cell? ⟨g, 1, none⟩ = some (.slice (some ⟨rb, 0, none⟩) N cap) := (by rw [cell_of_row _ _ _ _ _ _ hd4, HN.out]; rfl); have hf4 : w4.frozen? ⟨g, 1, none⟩ = false := (by simp [World.frozen?, hd4]); have HO4 : Hid _ := hown4; have HG4 : Hid _ := hgr4; have HW4 : Hid _ := hwh4; clear hown4 hgr4 hwh4 hd4) | (go_at_call 61; refine Calls.mono (HC2.out _ HB1.out) ?_; rintro e w2 ⟨v2, rfl, hown2, hb2⟩; have HB2 : Hid (Below w.heap.size w w2) := below_next HB1.out hb2; obtain ⟨a2, c2, e2, hc2, hn2, hr2⟩ := OwnE.val hown2; rw [← HK2.out] at e2 hc2; subst e2; have HR12 : Hid (RdE w2 a1 (xs.take k)) := HR1.out.below hb2; have HR2 : Hid (RdE w2 a2 (xs.drop k)) := hr2; have HQ2 : Hid (k2 ≤ c2 ∧ (a2 = none → c2 = 0)) := ⟨hc2, hn2⟩; have hcg2 : w2.cell? ⟨g, 1, none⟩ = some (.slice (some ⟨rb, 0, none⟩) N cap) := (HB2.out.cell hgl).trans hcg1; have hgl2 : g < w2.heap.size := Nat.lt_of_lt_of_le hgl HB2.out.size; have HROW3 : Hid (∀ x y, (w2.alloc (.cells #[x, y] tPg)).ownsRow 0 tPg 1 (.slice (some ⟨rb, 0, none⟩) N cap) N vs) := (fun x y => (by rw [HN.out]; exact (HI.out.below (al HB2.out _)).row)); have HNE : Hid (rb ≠ w2.heap.size) := (fun e => (by have h9 := (World.ownsRow.lt HI.out.row rb rfl).2; have := HB2.out.size; omega)); have HD3 : Hid (∀ x y u, (w2.alloc (.cells #[x, y] tPg)).grownBy u (some rb) → u.heap[g]? = some (.cells #[.int .i64 (S : Int), .slice (some ⟨rb, 0, none⟩) P.length cap] tIx (0, 0))) := (fun x y u hu => (hu.block g (by have := (al HB2.out (.cells #[x, y] tPg)).size; omega) (fun e => HI.out.ne e.symm)).trans (HI.out.below (al HB2.out _)).hd); clear hown2 hb2 hc2 hn2 hr2) | (go_at_call 61; refine Calls.mono (HC1.out _ (by exact (Below.refl _ _).drew.drew)) ?_; rintro e w1 ⟨v1, rfl, hown1, hb1⟩; have HB1 : Hid (Below w.heap.size w w1) := below_next (Below.refl _ _).drew.drew hb1; obtain ⟨a1, c1, e1, hc1, hn1, hr1⟩ := OwnE.val hown1; rw [← HK1.out] at e1 hc1; subst e1; have HR1 : Hid (RdE w1 a1 (xs.take k)) := hr1; have HQ1 : Hid (k1 ≤ c1 ∧ (a1 = none → c1 = 0)) := ⟨hc1, hn1⟩; have hcgA : w1.cell? ⟨g, 1, none⟩ = some (.slice (some ⟨rb, 0, none⟩) N cap) := (HB1.out.cell hgl).trans hcg1; clear hown1 hb1 hc1 hn1 hr1)
    go_wp2_with fail
    refine hK.out _ _ (by exact trivial) ?_
    clear hK K
    intro hHeld2
    clear hHeld
    have hHeld := hHeld2
    clear hHeld2
    try simp only [Act.put, List.setIfInBounds_toArray, List.set_cons_zero, List.set_cons_succ]
    refine run_at (i := 12) rfl (by kernel_rfl) (by rfl) (fun K hK => ?_)
    simp only [List.getElem_toArray, List.getElem_cons_zero, List.getElem_cons_succ]
    go_simp
    go_wp2_with fail
    refine hK.out _ _ (by exact trivial) ?_
    clear hK K
    intro hHeld2
    clear hHeld
    have hHeld := hHeld2
    clear hHeld2
    try simp only [Act.put, List.setIfInBounds_toArray, List.set_cons_zero, List.set_cons_succ]
    refine run_at (i := 13) rfl (by kernel_rfl) (by rfl) (fun K hK => ?_)
    simp only [List.getElem_toArray, List.getElem_cons_zero, List.getElem_cons_succ]
    go_simp
    first | (go_at_call 60; refine Calls.mono (split_t (HROW3.out _ _) HONE.out p p1 HP1.out HPN.out w2.heap.size _ _ (heap_alloc_new w2 _) HNE.out rfl rfl (by have := HN.out; omega)) ?_; rintro e w4 ⟨g', c', rfl, hown4, hgr4, hwh4⟩; have hd4 := (HD3.out _ _ w4 hgr4); have hc4 : w4.cell? ⟨g, 1, none⟩ = some (.slice (some ⟨rb, 0, none⟩) N cap) := (by rw [cell_of_row _ _ _ _ _ _ hd4, HN.out]; rfl); have hf4 : w4.frozen? ⟨g, 1, none⟩ = false := (by simp [World.frozen?, hd4]); have HO4 : Hid _ := hown4; have HG4 : Hid _ := hgr4; have HW4 : Hid _ := hwh4; clear hown4 hgr4 hwh4 hd4) | (go_at_call 61; refine Calls.mono (HC2.out _ HB1.out) ?_; rintro e w2 ⟨v2, rfl, hown2, hb2⟩; have HB2 : Hid (Below w.heap.size w w2) := below_next HB1.out hb2; obtain ⟨a2, c2, e2, hc2, hn2, hr2⟩ := OwnE.val hown2; rw [← HK2.out] at e2 hc2; subst e2; have HR12 : Hid (RdE w2 a1 (xs.take k)) := HR1.out.below hb2; have HR2 : Hid (RdE w2 a2 (xs.drop k)) := hr2; have HQ2 : Hid (k2 ≤ c2 ∧ (a2 = none → c2 = 0)) := ⟨hc2, hn2⟩; have hcg2 : w2.cell? ⟨g, 1, none⟩ = some (.slice (some ⟨rb, 0, none⟩) N cap) := (HB2.out.cell hgl).trans hcg1; have hgl2 : g < w2.heap.size := Nat.lt_of_lt_of_le hgl HB2.out.size; have HROW3 : Hid (∀ x y, (w2.alloc (.cells #[x, y] tPg)).ownsRow 0 tPg 1 (.slice (some ⟨rb, 0, none⟩) N cap) N vs) := (fun x y => (by rw [HN.out]; exact (HI.out.below (al HB2.out _)).row)); have HNE : Hid (rb ≠ w2.heap.size) := (fun e => (by have h9 := (World.ownsRow.lt HI.out.row rb rfl).2; have := HB2.out.size; omega)); have HD3 : Hid (∀ x y u, (w2.alloc (.cells #[x, y] tPg)).grownBy u (some rb) → u.heap[g]? = some (.cells #[.int .i64 (S : Int), .slice (some ⟨rb, 0, none⟩) P.length cap] tIx (0, 0))) := (fun x y u hu => (hu.block g (by have := (al HB2.out (.cells #[x, y] tPg)).size; omega) (fun e => HI.out.ne e.symm)).trans (HI.out.below (al HB2.out _)).hd); clear hown2 hb2 hc2 hn2 hr2) | (go_at_call 61; refine Calls.mono (HC1.out _ (by exact (Below.refl _ _).drew.drew)) ?_; rintro e w1 ⟨v1, rfl, hown1, hb1⟩; have HB1 : Hid (Below w.heap.size w w1) := below_next (Below.refl _ _).drew.drew hb1; obtain ⟨a1, c1, e1, hc1, hn1, hr1⟩ := OwnE.val hown1; rw [← HK1.out] at e1 hc1; subst e1; have HR1 : Hid (RdE w1 a1 (xs.take k)) := hr1; have HQ1 : Hid (k1 ≤ c1 ∧ (a1 = none → c1 = 0)) := ⟨hc1, hn1⟩; have hcgA : w1.cell? ⟨g, 1, none⟩ = some (.slice (some ⟨rb, 0, none⟩) N cap) := (HB1.out.cell hgl).trans hcg1; clear hown1 hb1 hc1 hn1 hr1)
    go_wp2_with fail
    refine hK.out _ _ (by exact trivial) ?_
    clear hK K
    intro hHeld2
    clear hHeld
    have hHeld := hHeld2
    clear hHeld2
    try simp only [Act.put, List.setIfInBounds_toArray, List.set_cons_zero, List.set_cons_succ]
    refine take_at (i := 14) 49 (v := ?_) rfl rfl (by kernel_rfl) (by kernel_rfl) (by kernel_rfl) (fun _ _ _ h => h) (by rfl) ?_ hHeld ?_
    rotate_left
    · (intro w hSw; (try dsimp only at hSw); go_simp; try with_reducible rfl)
    simp only [Act.put, List.setIfInBounds_toArray, List.set_cons_zero, List.set_cons_succ]
    refine take_at (i := 15) 50 (v := ?_) rfl rfl (by kernel_rfl) (by kernel_rfl) (by kernel_rfl) (fun _ _ _ h => h) (by rfl) ?_ hHeld ?_
    rotate_left
    · (intro w hSw; (try dsimp only at hSw); go_simp; try with_reducible rfl)
    simp only [Act.put, List.setIfInBounds_toArray, List.set_cons_zero, List.set_cons_succ]
    refine run_at (i := 16) rfl (by kernel_rfl) (by rfl) (fun K hK => ?_)
    simp only [List.getElem_toArray, List.getElem_cons_zero, List.getElem_cons_succ]
    go_simp
    go_wp2_with fail
    refine hK.out _ _ (by exact trivial) ?_
    clear hK K
    intro hHeld2
    clear hHeld
    have hHeld := hHeld2
    clear hHeld2
    try simp only [Act.put, List.setIfInBounds_toArray, List.set_cons_zero, List.set_cons_succ]
    refine wpAnyH_done (by kernel_rfl) ?_ _
    refine NoPanic.normal ?_
  rotate_left 1
  refine AllReadyH.cons (o := _) rfl (fun K hK => ?_) AllReadyH.nil
  focus
    rw [if_pos (by rfl)]
    simp only [List.getElem_toArray, List.getElem_cons_zero, List.getElem_cons_succ]
    go_simp
    first | (go_at_call 60; refine Calls.mono (split_t (HROW3.out _ _) HONE.out p p1 HP1.out HPN.out w2.heap.size _ _ (heap_alloc_new w2 _) HNE.out rfl rfl (by have := HN.out; omega)) ?_; rintro e w4 ⟨g', c', rfl, hown4, hgr4, hwh4⟩; have hd4 := (HD3.out _ _ w4 hgr4); have hc4 : w4.cell? ⟨g, 1, none⟩ = some (.slice (some ⟨rb, 0, none⟩) N cap) := (by rw [cell_of_row _ _ _ _ _ _ hd4, HN.out]; rfl); have hf4 : w4.frozen? ⟨g, 1, none⟩ = false := (by simp [World.frozen?, hd4]); have HO4 : Hid _ := hown4; have HG4 : Hid _ := hgr4; have HW4 : Hid _ := hwh4; clear hown4 hgr4 hwh4 hd4) | (go_at_call 61; refine Calls.mono (HC2.out _ HB1.out) ?_; rintro e w2 ⟨v2, rfl, hown2, hb2⟩; have HB2 : Hid (Below w.heap.size w w2) := below_next HB1.out hb2; obtain ⟨a2, c2, e2, hc2, hn2, hr2⟩ := OwnE.val hown2; rw [← HK2.out] at e2 hc2; subst e2; have HR12 : Hid (RdE w2 a1 (xs.take k)) := HR1.out.below hb2; have HR2 : Hid (RdE w2 a2 (xs.drop k)) := hr2; have HQ2 : Hid (k2 ≤ c2 ∧ (a2 = none → c2 = 0)) := ⟨hc2, hn2⟩; have hcg2 : w2.cell? ⟨g, 1, none⟩ = some (.slice (some ⟨rb, 0, none⟩) N cap) := (HB2.out.cell hgl).trans hcg1; have hgl2 : g < w2.heap.size := Nat.lt_of_lt_of_le hgl HB2.out.size; have HROW3 : Hid (∀ x y, (w2.alloc (.cells #[x, y] tPg)).ownsRow 0 tPg 1 (.slice (some ⟨rb, 0, none⟩) N cap) N vs) := (fun x y => (by rw [HN.out]; exact (HI.out.below (al HB2.out _)).row)); have HNE : Hid (rb ≠ w2.heap.size) := (fun e => (by have h9 := (World.ownsRow.lt HI.out.row rb rfl).2; have := HB2.out.size; omega)); have HD3 : Hid (∀ x y u, (w2.alloc (.cells #[x, y] tPg)).grownBy u (some rb) → u.heap[g]? = some (.cells #[.int .i64 (S : Int), .slice (some ⟨rb, 0, none⟩) P.length cap] tIx (0, 0))) := (fun x y u hu => (hu.block g (by have := (al HB2.out (.cells #[x, y] tPg)).size; omega) (fun e => HI.out.ne e.symm)).trans (HI.out.below (al HB2.out _)).hd); clear hown2 hb2 hc2 hn2 hr2) | (go_at_call 61; refine Calls.mono (HC1.out _ (by exact (Below.refl _ _).drew.drew)) ?_; rintro e w1 ⟨v1, rfl, hown1, hb1⟩; have HB1 : Hid (Below w.heap.size w w1) := below_next (Below.refl _ _).drew.drew hb1; obtain ⟨a1, c1, e1, hc1, hn1, hr1⟩ := OwnE.val hown1; rw [← HK1.out] at e1 hc1; subst e1; have HR1 : Hid (RdE w1 a1 (xs.take k)) := hr1; have HQ1 : Hid (k1 ≤ c1 ∧ (a1 = none → c1 = 0)) := ⟨hc1, hn1⟩; have hcgA : w1.cell? ⟨g, 1, none⟩ = some (.slice (some ⟨rb, 0, none⟩) N cap) := (HB1.out.cell hgl).trans hcg1; clear hown1 hb1 hc1 hn1 hr1)
    go_wp2_with fail
    refine hK.out _ _ (by exact trivial) ?_
    clear hK K
    intro hHeld2
    clear hHeld
    have hHeld := hHeld2
    clear hHeld2
    try simp only [Act.put, List.setIfInBounds_toArray, List.set_cons_zero, List.set_cons_succ]
    refine wpAnyH_ready (rs := [4, 11]) (by kernel_rfl) (by simp) ?_
    refine AllReadyH.cons (o := _) rfl (fun K hK => ?_) ?_
    focus
      rw [if_pos (by rfl)]
      refine val_wp 39 (v := ?_) rfl ?_ ?_
      rotate_left
      · (go_simp; try with_reducible rfl)
      refine hK.out _ _ (by exact trivial) ?_
      clear hK K
      intro hHeld2
      clear hHeld
      have hHeld := hHeld2
      clear hHeld2
      simp only [Act.put, List.setIfInBounds_toArray, List.set_cons_zero, List.set_cons_succ]
      refine run_at (i := 11) rfl (by kernel_rfl) (by rfl) (fun K hK => ?_)
      simp only [List.getElem_toArray, List.getElem_cons_zero, List.getElem_cons_succ]
      go_simp
      first | (go_at_call 60; refine Calls.mono (split_t (HROW3.out _ _) HONE.out p p1 HP1.out HPN.out w2.heap.size _ _ (heap_alloc_new w2 _) HNE.out rfl rfl (by have := HN.out; omega)) ?_; rintro e w4 ⟨g', c', rfl, hown4, hgr4, hwh4⟩; have hd4 := (HD3.out _ _ w4 hgr4); have hc4 : w4.cell? ⟨g, 1, none⟩ = some (.slice (some ⟨rb, 0, none⟩) N cap) := (by rw [cell_of_row _ _ _ _ _ _ hd4, HN.out]; rfl); have hf4 : w4.frozen? ⟨g, 1, none⟩ = false := (by simp [World.frozen?, hd4]); have HO4 : Hid _ := hown4; have HG4 : Hid _ := hgr4; have HW4 : Hid _ := hwh4; clear hown4 hgr4 hwh4 hd4) | (go_at_call 61; refine Calls.mono (HC2.out _ HB1.out) ?_; rintro e w2 ⟨v2, rfl, hown2, hb2⟩; have HB2 : Hid (Below w.heap.size w w2) := below_next HB1.out hb2; obtain ⟨a2, c2, e2, hc2, hn2, hr2⟩ := OwnE.val hown2; rw [← HK2.out] at e2 hc2; subst e2; have HR12 : Hid (RdE w2 a1 (xs.take k)) := HR1.out.below hb2; have HR2 : Hid (RdE w2 a2 (xs.drop k)) := hr2; have HQ2 : Hid (k2 ≤ c2 ∧ (a2 = none → c2 = 0)) := ⟨hc2, hn2⟩; have hcg2 : w2.cell? ⟨g, 1, none⟩ = some (.slice (some ⟨rb, 0, none⟩) N cap) := (HB2.out.cell hgl).trans hcg1; have hgl2 : g < w2.heap.size := Nat.lt_of_lt_of_le hgl HB2.out.size; have HROW3 : Hid (∀ x y, (w2.alloc (.cells #[x, y] tPg)).ownsRow 0 tPg 1 (.slice (some ⟨rb, 0, none⟩) N cap) N vs) := (fun x y => (by rw [HN.out]; exact (HI.out.below (al HB2.out _)).row)); have HNE : Hid (rb ≠ w2.heap.size) := (fun e => (by have h9 := (World.ownsRow.lt HI.out.row rb rfl).2; have := HB2.out.size; omega)); have HD3 : Hid (∀ x y u, (w2.alloc (.cells #[x, y] tPg)).grownBy u (some rb) → u.heap[g]? = some (.cells #[.int .i64 (S : Int), .slice (some ⟨rb, 0, none⟩) P.length cap] tIx (0, 0))) := (fun x y u hu => (hu.block g (by have := (al HB2.out (.cells #[x, y] tPg)).size; omega) (fun e => HI.out.ne e.symm)).trans (HI.out.below (al HB2.out _)).hd); clear hown2 hb2 hc2 hn2 hr2) | (go_at_call 61; refine Calls.mono (HC1.out _ (by exact (Below.refl _ _).drew.drew)) ?_; rintro e w1 ⟨v1, rfl, hown1, hb1⟩; have HB1 : Hid (Below w.heap.size w w1) := below_next (Below.refl _ _).drew.drew hb1; obtain ⟨a1, c1, e1, hc1, hn1, hr1⟩ := OwnE.val hown1; rw [← HK1.out] at e1 hc1; subst e1; have HR1 : Hid (RdE w1 a1 (xs.take k)) := hr1; have HQ1 : Hid (k1 ≤ c1 ∧ (a1 = none → c1 = 0)) := ⟨hc1, hn1⟩; have hcgA : w1.cell? ⟨g, 1, none⟩ = some (.slice (some ⟨rb, 0, none⟩) N cap) := (HB1.out.cell hgl).trans hcg1; clear hown1 hb1 hc1 hn1 hr1)
      go_wp2_with fail
      refine hK.out _ _ (by exact trivial) ?_
      clear hK K
      intro hHeld2
      clear hHeld
      have hHeld := hHeld2
      clear hHeld2
      try simp only [Act.put, List.setIfInBounds_toArray, List.set_cons_zero, List.set_cons_succ]
      refine run_at (i := 12) rfl (by kernel_rfl) (by rfl) (fun K hK => ?_)
      simp only [List.getElem_toArray, List.getElem_cons_zero, List.getElem_cons_succ]
      go_simp
      go_wp2_with fail
      refine hK.out _ _ (by exact trivial) ?_
      clear hK K
      intro hHeld2
      clear hHeld
      have hHeld := hHeld2
      clear hHeld2
      try simp only [Act.put, List.setIfInBounds_toArray, List.set_cons_zero, List.set_cons_succ]
      refine run_at (i := 13) rfl (by kernel_rfl) (by rfl) (fun K hK => ?_)
      simp only [List.getElem_toArray, List.getElem_cons_zero, List.getElem_cons_succ]
      go_simp
      first | (go_at_call 60; refine Calls.mono (split_t (HROW3.out _ _) HONE.out p p1 HP1.out HPN.out w2.heap.size _ _ (heap_alloc_new w2 _) HNE.out rfl rfl (by have := HN.out; omega)) ?_; rintro e w4 ⟨g', c', rfl, hown4, hgr4, hwh4⟩; have hd4 := (HD3.out _ _ w4 hgr4); have hc4 : w4.cell? ⟨g, 1, none⟩ = some (.slice (some ⟨rb, 0, none⟩) N cap) := (by rw [cell_of_row _ _ _ _ _ _ hd4, HN.out]; rfl); have hf4 : w4.frozen? ⟨g, 1, none⟩ = false := (by simp [World.frozen?, hd4]); have HO4 : Hid _ := hown4; have HG4 : Hid _ := hgr4; have HW4 : Hid _ := hwh4; clear hown4 hgr4 hwh4 hd4) | (go_at_call 61; refine Calls.mono (HC2.out _ HB1.out) ?_; rintro e w2 ⟨v2, rfl, hown2, hb2⟩; have HB2 : Hid (Below w.heap.size w w2) := below_next HB1.out hb2; obtain ⟨a2, c2, e2, hc2, hn2, hr2⟩ := OwnE.val hown2; rw [← HK2.out] at e2 hc2; subst e2; have HR12 : Hid (RdE w2 a1 (xs.take k)) := HR1.out.below hb2; have HR2 : Hid (RdE w2 a2 (xs.drop k)) := hr2; have HQ2 : Hid (k2 ≤ c2 ∧ (a2 = none → c2 = 0)) := ⟨hc2, hn2⟩; have hcg2 : w2.cell? ⟨g, 1, none⟩ = some (.slice (some ⟨rb, 0, none⟩) N cap) := (HB2.out.cell hgl).trans hcg1; have hgl2 : g < w2.heap.size := Nat.lt_of_lt_of_le hgl HB2.out.size; have HROW3 : Hid (∀ x y, (w2.alloc (.cells #[x, y] tPg)).ownsRow 0 tPg 1 (.slice (some ⟨rb, 0, none⟩) N cap) N vs) := (fun x y => (by rw [HN.out]; exact (HI.out.below (al HB2.out _)).row)); have HNE : Hid (rb ≠ w2.heap.size) := (fun e => (by have h9 := (World.ownsRow.lt HI.out.row rb rfl).2; have := HB2.out.size; omega)); have HD3 : Hid (∀ x y u, (w2.alloc (.cells #[x, y] tPg)).grownBy u (some rb) → u.heap[g]? = some (.cells #[.int .i64 (S : Int), .slice (some ⟨rb, 0, none⟩) P.length cap] tIx (0, 0))) := (fun x y u hu => (hu.block g (by have := (al HB2.out (.cells #[x, y] tPg)).size; omega) (fun e => HI.out.ne e.symm)).trans (HI.out.below (al HB2.out _)).hd); clear hown2 hb2 hc2 hn2 hr2) | (go_at_call 61; refine Calls.mono (HC1.out _ (by exact (Below.refl _ _).drew.drew)) ?_; rintro e w1 ⟨v1, rfl, hown1, hb1⟩; have HB1 : Hid (Below w.heap.size w w1) := below_next (Below.refl _ _).drew.drew hb1; obtain ⟨a1, c1, e1, hc1, hn1, hr1⟩ := OwnE.val hown1; rw [← HK1.out] at e1 hc1; subst e1; have HR1 : Hid (RdE w1 a1 (xs.take k)) := hr1; have HQ1 : Hid (k1 ≤ c1 ∧ (a1 = none → c1 = 0)) := ⟨hc1, hn1⟩; have hcgA : w1.cell? ⟨g, 1, none⟩ = some (.slice (some ⟨rb, 0, none⟩) N cap) := (HB1.out.cell hgl).trans hcg1; clear hown1 hb1 hc1 hn1 hr1)
      go_wp2_with fail
      refine hK.out _ _ (by exact trivial) ?_
      clear hK K
      intro hHeld2
      clear hHeld
      have hHeld := hHeld2
      clear hHeld2
      try simp only [Act.put, List.setIfInBounds_toArray, List.set_cons_zero, List.set_cons_succ]
      refine take_at (i := 14) 49 (v := ?_) rfl rfl (by kernel_rfl) (by kernel_rfl) (by kernel_rfl) (fun _ _ _ h => h) (by rfl) ?_ hHeld ?_
      rotate_left
      · (intro w hSw; (try dsimp only at hSw); go_simp; try with_reducible rfl)
      simp only [Act.put, List.setIfInBounds_toArray, List.set_cons_zero, List.set_cons_succ]
      refine take_at (i := 15) 50 (v := ?_) rfl rfl (by kernel_rfl) (by kernel_rfl) (by kernel_rfl) (fun _ _ _ h => h) (by rfl) ?_ hHeld ?_
      rotate_left
      · (intro w hSw; (try dsimp only at hSw); go_simp; try with_reducible rfl)
      simp only [Act.put, List.setIfInBounds_toArray, List.set_cons_zero, List.set_cons_succ]
      refine run_at (i := 16) rfl (by kernel_rfl) (by rfl) (fun K hK => ?_)
      simp only [List.getElem_toArray, List.getElem_cons_zero, List.getElem_cons_succ]
      go_simp
      go_wp2_with fail
      refine hK.out _ _ (by exact trivial) ?_
      clear hK K
      intro hHeld2
      clear hHeld
      have hHeld := hHeld2
      clear hHeld2
      try simp only [Act.put, List.setIfInBounds_toArray, List.set_cons_zero, List.set_cons_succ]
      refine wpAnyH_done (by kernel_rfl) ?_ _
      refine NoPanic.normal ?_
    rotate_left 1
    refine AllReadyH.cons (o := _) rfl (fun K hK => ?_) AllReadyH.nil
    focus
      rw [if_pos (by rfl)]
      simp only [List.getElem_toArray, List.getElem_cons_zero, List.getElem_cons_succ]
      go_simp
      first | (go_at_call 60; refine Calls.mono (split_t (HROW3.out _ _) HONE.out p p1 HP1.out HPN.out w2.heap.size _ _ (heap_alloc_new w2 _) HNE.out rfl rfl (by have := HN.out; omega)) ?_; rintro e w4 ⟨g', c', rfl, hown4, hgr4, hwh4⟩; have hd4 := (HD3.out _ _ w4 hgr4); have hc4 : w4.cell? ⟨g, 1, none⟩ = some (.slice (some ⟨rb, 0, none⟩) N cap) := (by rw [cell_of_row _ _ _ _ _ _ hd4, HN.out]; rfl); have hf4 : w4.frozen? ⟨g, 1, none⟩ = false := (by simp [World.frozen?, hd4]); have HO4 : Hid _ := hown4; have HG4 : Hid _ := hgr4; have HW4 : Hid _ := hwh4; clear hown4 hgr4 hwh4 hd4) | (go_at_call 61; refine Calls.mono (HC2.out _ HB1.out) ?_; rintro e w2 ⟨v2, rfl, hown2, hb2⟩; have HB2 : Hid (Below w.heap.size w w2) := below_next HB1.out hb2; obtain ⟨a2, c2, e2, hc2, hn2, hr2⟩ := OwnE.val hown2; rw [← HK2.out] at e2 hc2; subst e2; have HR12 : Hid (RdE w2 a1 (xs.take k)) := HR1.out.below hb2; have HR2 : Hid (RdE w2 a2 (xs.drop k)) := hr2; have HQ2 : Hid (k2 ≤ c2 ∧ (a2 = none → c2 = 0)) := ⟨hc2, hn2⟩; have hcg2 : w2.cell? ⟨g, 1, none⟩ = some (.slice (some ⟨rb, 0, none⟩) N cap) := (HB2.out.cell hgl).trans hcg1; have hgl2 : g < w2.heap.size := Nat.lt_of_lt_of_le hgl HB2.out.size; have HROW3 : Hid (∀ x y, (w2.alloc (.cells #[x, y] tPg)).ownsRow 0 tPg 1 (.slice (some ⟨rb, 0, none⟩) N cap) N vs) := (fun x y => (by rw [HN.out]; exact (HI.out.below (al HB2.out _)).row)); have HNE : Hid (rb ≠ w2.heap.size) := (fun e => (by have h9 := (World.ownsRow.lt HI.out.row rb rfl).2; have := HB2.out.size; omega)); have HD3 : Hid (∀ x y u, (w2.alloc (.cells #[x, y] tPg)).grownBy u (some rb) → u.heap[g]? = some (.cells #[.int .i64 (S : Int), .slice (some ⟨rb, 0, none⟩) P.length cap] tIx (0, 0))) := (fun x y u hu => (hu.block g (by have := (al HB2.out (.cells #[x, y] tPg)).size; omega) (fun e => HI.out.ne e.symm)).trans (HI.out.below (al HB2.out _)).hd); clear hown2 hb2 hc2 hn2 hr2) | (go_at_call 61; refine Calls.mono (HC1.out _ (by exact (Below.refl _ _).drew.drew)) ?_; rintro e w1 ⟨v1, rfl, hown1, hb1⟩; have HB1 : Hid (Below w.heap.size w w1) := below_next (Below.refl _ _).drew.drew hb1; obtain ⟨a1, c1, e1, hc1, hn1, hr1⟩ := OwnE.val hown1; rw [← HK1.out] at e1 hc1; subst e1; have HR1 : Hid (RdE w1 a1 (xs.take k)) := hr1; have HQ1 : Hid (k1 ≤ c1 ∧ (a1 = none → c1 = 0)) := ⟨hc1, hn1⟩; have hcgA : w1.cell? ⟨g, 1, none⟩ = some (.slice (some ⟨rb, 0, none⟩) N cap) := (HB1.out.cell hgl).trans hcg1; clear hown1 hb1 hc1 hn1 hr1)
      go_wp2_with fail
      refine hK.out _ _ (by exact trivial) ?_
      clear hK K
      intro hHeld2
      clear hHeld
      have hHeld := hHeld2
      clear hHeld2
      try simp only [Act.put, List.setIfInBounds_toArray, List.set_cons_zero, List.set_cons_succ]
      refine wpAnyH_ready (rs := [4, 12]) (by kernel_rfl) (by simp) ?_
      refine AllReadyH.cons (o := _) rfl (fun K hK => ?_) ?_
      focus
        rw [if_pos (by rfl)]
        refine val_wp 39 (v := ?_) rfl ?_ ?_
        rotate_left
        · (go_simp; try with_reducible rfl)
        refine hK.out _ _ (by exact trivial) ?_
        clear hK K
        intro hHeld2
        clear hHeld
        have hHeld := hHeld2
        clear hHeld2
        simp only [Act.put, List.setIfInBounds_toArray, List.set_cons_zero, List.set_cons_succ]
        refine run_at (i := 12) rfl (by kernel_rfl) (by rfl) (fun K hK => ?_)
        simp only [List.getElem_toArray, List.getElem_cons_zero, List.getElem_cons_succ]
        go_simp
        go_wp2_with fail
        refine hK.out _ _ (by exact trivial) ?_
        clear hK K
        intro hHeld2
        clear hHeld
        have hHeld := hHeld2
        clear hHeld2
        try simp only [Act.put, List.setIfInBounds_toArray, List.set_cons_zero, List.set_cons_succ]
        refine run_at (i := 13) rfl (by kernel_rfl) (by rfl) (fun K hK => ?_)
        simp only [List.getElem_toArray, List.getElem_cons_zero, List.getElem_cons_succ]
        go_simp
        first | (go_at_call 60; refine Calls.mono (split_t (HROW3.out _ _) HONE.out p p1 HP1.out HPN.out w2.heap.size _ _ (heap_alloc_new w2 _) HNE.out rfl rfl (by have := HN.out; omega)) ?_; rintro e w4 ⟨g', c', rfl, hown4, hgr4, hwh4⟩; have hd4 := (HD3.out _ _ w4 hgr4); have hc4 : w4.cell? ⟨g, 1, none⟩ = some (.slice (some ⟨rb, 0, none⟩) N cap) := (by rw [cell_of_row _ _ _ _ _ _ hd4, HN.out]; rfl); have hf4 : w4.frozen? ⟨g, 1, none⟩ = false := (by simp [World.frozen?, hd4]); have HO4 : Hid _ := hown4; have HG4 : Hid _ := hgr4; have HW4 : Hid _ := hwh4; clear hown4 hgr4 hwh4 hd4) | (go_at_call 61; refine Calls.mono (HC2.out _ HB1.out) ?_; rintro e w2 ⟨v2, rfl, hown2, hb2⟩; have HB2 : Hid (Below w.heap.size w w2) := below_next HB1.out hb2; obtain ⟨a2, c2, e2, hc2, hn2, hr2⟩ := OwnE.val hown2; rw [← HK2.out] at e2 hc2; subst e2; have HR12 : Hid (RdE w2 a1 (xs.take k)) := HR1.out.below hb2; have HR2 : Hid (RdE w2 a2 (xs.drop k)) := hr2; have HQ2 : Hid (k2 ≤ c2 ∧ (a2 = none → c2 = 0)) := ⟨hc2, hn2⟩; have hcg2 : w2.cell? ⟨g, 1, none⟩ = some (.slice (some ⟨rb, 0, none⟩) N cap) := (HB2.out.cell hgl).trans hcg1; have hgl2 : g < w2.heap.size := Nat.lt_of_lt_of_le hgl HB2.out.size; have HROW3 : Hid (∀ x y, (w2.alloc (.cells #[x, y] tPg)).ownsRow 0 tPg 1 (.slice (some ⟨rb, 0, none⟩) N cap) N vs) := (fun x y => (by rw [HN.out]; exact (HI.out.below (al HB2.out _)).row)); have HNE : Hid (rb ≠ w2.heap.size) := (fun e => (by have h9 := (World.ownsRow.lt HI.out.row rb rfl).2; have := HB2.out.size; omega)); have HD3 : Hid (∀ x y u, (w2.alloc (.cells #[x, y] tPg)).grownBy u (some rb) → u.heap[g]? = some (.cells #[.int .i64 (S : Int), .slice (some ⟨rb, 0, none⟩) P.length cap] tIx (0, 0))) := (fun x y u hu => (hu.block g (by have := (al HB2.out (.cells #[x, y] tPg)).size; omega) (fun e => HI.out.ne e.symm)).trans (HI.out.below (al HB2.out _)).hd); clear hown2 hb2 hc2 hn2 hr2) | (go_at_call 61; refine Calls.mono (HC1.out _ (by exact (Below.refl _ _).drew.drew)) ?_; rintro e w1 ⟨v1, rfl, hown1, hb1⟩; have HB1 : Hid (Below w.heap.size w w1) := below_next (Below.refl _ _).drew.drew hb1; obtain ⟨a1, c1, e1, hc1, hn1, hr1⟩ := OwnE.val hown1; rw [← HK1.out] at e1 hc1; subst e1; have HR1 : Hid (RdE w1 a1 (xs.take k)) := hr1; have HQ1 : Hid (k1 ≤ c1 ∧ (a1 = none → c1 = 0)) := ⟨hc1, hn1⟩; have hcgA : w1.cell? ⟨g, 1, none⟩ = some (.slice (some ⟨rb, 0, none⟩) N cap) := (HB1.out.cell hgl).trans hcg1; clear hown1 hb1 hc1 hn1 hr1)
        go_wp2_with fail
        refine hK.out _ _ (by exact trivial) ?_
        clear hK K
        intro hHeld2
        clear hHeld
        have hHeld := hHeld2
        clear hHeld2
        try simp only [Act.put, List.setIfInBounds_toArray, List.set_cons_zero, List.set_cons_succ]
        refine take_at (i := 14) 49 (v := ?_) rfl rfl (by kernel_rfl) (by kernel_rfl) (by kernel_rfl) (fun _ _ _ h => h) (by rfl) ?_ hHeld ?_
        rotate_left
        · (intro w hSw; (try dsimp only at hSw); go_simp; try with_reducible rfl)
        simp only [Act.put, List.setIfInBounds_toArray, List.set_cons_zero, List.set_cons_succ]
        refine take_at (i := 15) 50 (v := ?_) rfl rfl (by kernel_rfl) (by kernel_rfl) (by kernel_rfl) (fun _ _ _ h => h) (by rfl) ?_ hHeld ?_
        rotate_left
        · (intro w hSw; (try dsimp only at hSw); go_simp; try with_reducible rfl)
        simp only [Act.put, List.setIfInBounds_toArray, List.set_cons_zero, List.set_cons_succ]
        refine run_at (i := 16) rfl (by kernel_rfl) (by rfl) (fun K hK => ?_)
        simp only [List.getElem_toArray, List.getElem_cons_zero, List.getElem_cons_succ]
        go_simp
        go_wp2_with fail
        refine hK.out _ _ (by exact trivial) ?_
        clear hK K
        intro hHeld2
        clear hHeld
        have hHeld := hHeld2
        clear hHeld2
        try simp only [Act.put, List.setIfInBounds_toArray, List.set_cons_zero, List.set_cons_succ]
        refine wpAnyH_done (by kernel_rfl) ?_ _
        refine NoPanic.normal ?_
      rotate_left 1
      refine AllReadyH.cons (o := _) rfl (fun K hK => ?_) AllReadyH.nil
      focus
        rw [if_pos (by rfl)]
        simp only [List.getElem_toArray, List.getElem_cons_zero, List.getElem_cons_succ]
        go_simp
        go_wp2_with fail
        refine hK.out _ _ (by exact trivial) ?_
        clear hK K
        intro hHeld2
        clear hHeld
        have hHeld := hHeld2
        clear hHeld2
        try simp only [Act.put, List.setIfInBounds_toArray, List.set_cons_zero, List.set_cons_succ]
        refine val_at (i := 4) 39 (v := ?_) rfl rfl (by kernel_rfl) (by rfl) ?_ ?_ ?_
        rotate_left
        · (go_simp; try with_reducible rfl)
        · (exact trivial)
        intro hHeld2
        clear hHeld
        have hHeld := hHeld2
        clear hHeld2
        simp only [Act.put, List.setIfInBounds_toArray, List.set_cons_zero, List.set_cons_succ]
        refine run_at (i := 13) rfl (by kernel_rfl) (by rfl) (fun K hK => ?_)
        simp only [List.getElem_toArray, List.getElem_cons_zero, List.getElem_cons_succ]
        go_simp
        first | (go_at_call 60; refine Calls.mono (split_t (HROW3.out _ _) HONE.out p p1 HP1.out HPN.out w2.heap.size _ _ (heap_alloc_new w2 _) HNE.out rfl rfl (by have := HN.out; omega)) ?_; rintro e w4 ⟨g', c', rfl, hown4, hgr4, hwh4⟩; have hd4 := (HD3.out _ _ w4 hgr4); have hc4 : w4.cell? ⟨g, 1, none⟩ = some (.slice (some ⟨rb, 0, none⟩) N cap) := (by rw [cell_of_row _ _ _ _ _ _ hd4, HN.out]; rfl); have hf4 : w4.frozen? ⟨g, 1, none⟩ = false := (by simp [World.frozen?, hd4]); have HO4 : Hid _ := hown4; have HG4 : Hid _ := hgr4; have HW4 : Hid _ := hwh4; clear hown4 hgr4 hwh4 hd4) | (go_at_call 61; refine Calls.mono (HC2.out _ HB1.out) ?_; rintro e w2 ⟨v2, rfl, hown2, hb2⟩; have HB2 : Hid (Below w.heap.size w w2) := below_next HB1.out hb2; obtain ⟨a2, c2, e2, hc2, hn2, hr2⟩ := OwnE.val hown2; rw [← HK2.out] at e2 hc2; subst e2; have HR12 : Hid (RdE w2 a1 (xs.take k)) := HR1.out.below hb2; have HR2 : Hid (RdE w2 a2 (xs.drop k)) := hr2; have HQ2 : Hid (k2 ≤ c2 ∧ (a2 = none → c2 = 0)) := ⟨hc2, hn2⟩; have hcg2 : w2.cell? ⟨g, 1, none⟩ = some (.slice (some ⟨rb, 0, none⟩) N cap) := (HB2.out.cell hgl).trans hcg1; have hgl2 : g < w2.heap.size := Nat.lt_of_lt_of_le hgl HB2.out.size; have HROW3 : Hid (∀ x y, (w2.alloc (.cells #[x, y] tPg)).ownsRow 0 tPg 1 (.slice (some ⟨rb, 0, none⟩) N cap) N vs) := (fun x y => (by rw [HN.out]; exact (HI.out.below (al HB2.out _)).row)); have HNE : Hid (rb ≠ w2.heap.size) := (fun e => (by have h9 := (World.ownsRow.lt HI.out.row rb rfl).2; have := HB2.out.size; omega)); have HD3 : Hid (∀ x y u, (w2.alloc (.cells #[x, y] tPg)).grownBy u (some rb) → u.heap[g]? = some (.cells #[.int .i64 (S : Int), .slice (some ⟨rb, 0, none⟩) P.length cap] tIx (0, 0))) := (fun x y u hu => (hu.block g (by have := (al HB2.out (.cells #[x, y] tPg)).size; omega) (fun e => HI.out.ne e.symm)).trans (HI.out.below (al HB2.out _)).hd); clear hown2 hb2 hc2 hn2 hr2) | (go_at_call 61; refine Calls.mono (HC1.out _ (by exact (Below.refl _ _).drew.drew)) ?_; rintro e w1 ⟨v1, rfl, hown1, hb1⟩; have HB1 : Hid (Below w.heap.size w w1) := below_next (Below.refl _ _).drew.drew hb1; obtain ⟨a1, c1, e1, hc1, hn1, hr1⟩ := OwnE.val hown1; rw [← HK1.out] at e1 hc1; subst e1; have HR1 : Hid (RdE w1 a1 (xs.take k)) := hr1; have HQ1 : Hid (k1 ≤ c1 ∧ (a1 = none → c1 = 0)) := ⟨hc1, hn1⟩; have hcgA : w1.cell? ⟨g, 1, none⟩ = some (.slice (some ⟨rb, 0, none⟩) N cap) := (HB1.out.cell hgl).trans hcg1; clear hown1 hb1 hc1 hn1 hr1)
        go_wp2_with fail
        refine hK.out _ _ (by exact trivial) ?_
        clear hK K
        intro hHeld2
        clear hHeld
        have hHeld := hHeld2
        clear hHeld2
        try simp only [Act.put, List.setIfInBounds_toArray, List.set_cons_zero, List.set_cons_succ]
        refine take_at (i := 14) 49 (v := ?_) rfl rfl (by kernel_rfl) (by kernel_rfl) (by kernel_rfl) (fun _ _ _ h => h) (by rfl) ?_ hHeld ?_
        rotate_left
        · (intro w hSw; (try dsimp only at hSw); go_simp; try with_reducible rfl)
        simp only [Act.put, List.setIfInBounds_toArray, List.set_cons_zero, List.set_cons_succ]
        refine take_at (i := 15) 50 (v := ?_) rfl rfl (by kernel_rfl) (by kernel_rfl) (by kernel_rfl) (fun _ _ _ h => h) (by rfl) ?_ hHeld ?_
        rotate_left
        · (intro w hSw; (try dsimp only at hSw); go_simp; try with_reducible rfl)
        simp only [Act.put, List.setIfInBounds_toArray, List.set_cons_zero, List.set_cons_succ]
        refine run_at (i := 16) rfl (by kernel_rfl) (by rfl) (fun K hK => ?_)
        simp only [List.getElem_toArray, List.getElem_cons_zero, List.getElem_cons_succ]
        go_simp
        go_wp2_with fail
        refine hK.out _ _ (by exact trivial) ?_
        clear hK K
        intro hHeld2
        clear hHeld
        have hHeld := hHeld2
        clear hHeld2
        try simp only [Act.put, List.setIfInBounds_toArray, List.set_cons_zero, List.set_cons_succ]
        refine wpAnyH_done (by kernel_rfl) ?_ _
        refine NoPanic.normal ?_
  all_goals
    go_wp2
    refine bodyPost_end (results_none rfl _ _ _) rfl ?_
    have hln : (repL P p p1 [xs.take k, xs.drop k]).length = N + 1 := by rw [repL_len (by have := HN.out; have := HPN.out; omega)]; have := HN.out; have := HPN.out; have := HP1.out; simp; omega
    have h9 := (HI.out.below (al HB2.out (.cells #[.slice a1 k1 c1, .slice a2 k2 c2] tPg))).repRow HG4.out p p1 (by have := HN.out; have := HPN.out; omega) [xs.take k, xs.drop k] [.slice a1 k1 c1, .slice a2 k2 c2] rfl (fun t q e => by
      have hk9 : ∀ {a : Option Addr} {ys : List Ent}, RdE w2 a ys → RdE w4 a ys := fun h8 => (h8.below (al (Below.refl _ _) _)).kept (Chg.of_grown (F := foot g (.slice (some ⟨rb, 0, none⟩) P.length cap)) HG4.out (fun b e => .inr e)) (fun b e => (HI.out.below (al HB2.out _)).noF b e)
      match t, e with
      | 0, e => cases e; exact ⟨a1, c1, by rw [← HK1.out]; rfl, by rw [← HK1.out]; exact HQ1.out.1, HQ1.out.2, hk9 HR12.out⟩
      | 1, e => cases e; exact ⟨a2, c2, by rw [← HK2.out]; rfl, by rw [← HK2.out]; exact HQ2.out.1, HQ2.out.2, hk9 HR2.out⟩
      | t + 2, e => simp at e) (by rw [hln]; exact HO4.out)
    refine ⟨rfl, ⟨_, _, h9.1, ?_⟩, (Chg.of_below (al HB2.out _)).trans h9.2 (fun i hi => .inl hi)⟩
    rcases HW4.out with e | e
    · left; rw [e]; rfl
    · right; exact ⟨g', rfl, Nat.le_trans (al HB2.out (.cells #[.slice a1 k1 c1, .slice a2 k2 c2] tPg)).size e⟩
end
end Go.Proofs.Ytibolgpaolnheac
namespace Go.Proofs.Ytibolgpaolnheac
set_option linter.unusedVariables false
set_option linter.unusedSimpArgs false
open Go.RowKit
section
set_option maxRecDepth 20000
variable {w w' : World} {g S : Nat} {P : List (List Ent)} {v : Value} {vs : List Value}
set_option maxHeartbeats 3200000 in
theorem put_x (h : IdxAt w g S P v vs) (hsp : SP P) (hS : 1 ≤ S ∧ S ≤ 64) (hPl : P.length ≤ 4398046511104) (hlp : ∀ p ∈ P, p.length ≤ 100) (s1 s2 n : Nat) (p i : Nat) (ok : Bool) (hpl : PlaceIs P (s1, s2) p i ok) (hp : p < P.length) (hfit : S < (putL P[p] i ok (mkE (s1, s2) n)).length) :
    Calls Try.prog 17 #[.pointer (some ⟨g, 0, none⟩), sv (s1, s2), .int .u64 (n : Int)] w fun e w' => e = .returned (.bool (!ok)) ∧ (∃ v' vs', IdxAt w' g S (repL P p (p + 1) [(putL P[p] i ok (mkE (s1, s2) n)).take ((S + 1) / 2), (putL P[p] i ok (mkE (s1, s2) n)).drop ((S + 1) / 2)]) v' vs' ∧ (v'.ownBlock = v.ownBlock ∨ ∃ b, v'.ownBlock = some b ∧ w.heap.size ≤ b)) ∧ Chg (foot g v) w w' := by
  obtain ⟨w1, hw1⟩ : ∃ X : World, X = w.alloc (.cells #[.int .u64 (s1 : Int), .int .u64 (s2 : Int)] tSt) := ⟨_, rfl⟩
  have hb1 : Below w.heap.size w w1 := by rw [hw1]; exact al (Below.refl _ _) _
  have h1 := h.below hb1
  have HI1 : Hid (IdxAt w1 g S P v vs) := h1
  obtain ⟨pa, cap, hv, hcap, hnil, hrd, hpg⟩ := h1.rd
  have HPL : Hid _ := place_t (.pointer (some ⟨g, 0, none⟩)) pa P.length cap P (s1, s2) w1 hpg rfl hrd hsp hPl hlp
  have hcg0 : w.cell? ⟨g, 0, none⟩ = some (.int .i64 (S : Int)) := by rw [cell_of_row _ _ _ _ _ _ h.hd]; rfl
  have hgl : g < w.heap.size := (Array.getElem?_eq_some_iff.1 h.hd).1
  have hl3 : w1.rangeAt w.heap.size 0 (sc (s1, s2)) := by rw [hw1]; exact box_range (heap_alloc_new w _)
  have hSi : ¬ (S : Int) = 0 := by omega
  have hSb : ((S : Int) == 0) = false := by simpa using hSi
  have HB1 : Hid (Below w.heap.size w w1) := hb1
  have HP : Hid (PlaceIs P (s1, s2) p i ok) := hpl
  clear h1 hb1 hrd hpg hcap hnil h hpl
  go_enter Try.func17, Try.ntmps17
  go_wp2_with fail
  rw [← hw1]
  refine Calls.mono HPL.out ?_
  rintro e w2 ⟨p', i', ok', rfl, hpl', hb2⟩
  obtain ⟨e1, e2, e3⟩ := hpl'.uniq HP.out
  subst e1 e2 e3
  have HI2 : Hid (IdxAt w2 g S P v vs) := HI1.out.below hb2
  have HB2 : Hid (Below w.heap.size w w2) := below_next HB1.out hb2
  have hl4 : w2.rangeAt w.heap.size 0 (sc (s1, s2)) := rangeAt_below hl3 hb2
  obtain ⟨pa, cap, hv, hcap, hnil, hrd, -⟩ := HI2.out.rd
  obtain ⟨b, o, rfl, a, c, hcp, hkc, hnc, hr⟩ := hrd p' hp
  have hcg1 : w2.cell? ⟨g, 1, none⟩ = some v := by rw [cell_of_row _ _ _ _ _ _ HI2.out.hd]; rfl
  obtain ⟨NP, hNP⟩ : ∃ N, N = P.length := ⟨_, rfl⟩
  rw [hv, ← hNP] at hcg1
  obtain ⟨K0, hK0⟩ : ∃ N, N = P[p'].length := ⟨_, rfl⟩
  rw [← hK0] at hcp hkc
  have hgl2 : g < w2.heap.size := (Array.getElem?_eq_some_iff.1 HI2.out.hd).1
  have hbl2 : b < w2.heap.size := World.block_lt_of_cell? w2 _ hcp
  have hwl2 : w.heap.size < w2.heap.size := World.block_lt_of_cell? w2 _ (by have h9 := hl4 0 _ rfl; exact h9)
  have hN0 : ¬ (NP : Int) = 0 := by omega
  have hNb : ((NP : Int) == 0) = false := by simpa using hN0
  have hpi : (p' : Int) < (NP : Int) := by omega
  have hp0 : (0 : Int) ≤ (p' : Int) := by omega
  have hpN : p' < NP := by omega
  have hiK : i' ≤ K0 ∧ (ok' = true → i' < K0) := by
    rcases HP.out with ⟨h1, -⟩ | ⟨r, h1, h2, h3, h4, h5⟩
    · rw [h1] at hp; exact absurd hp (Nat.not_lt_zero _)
    · have eP : P.getD p' [] = P[p'] := by simp [List.getD, hp]
      rw [eP] at h4 h5
      exact ⟨by rw [hK0]; exact h4.1, fun h9 => by obtain ⟨h8, -⟩ := h5.1 h9; omega⟩
  have hK1 : K0 ≤ 100 := by rw [hK0]; exact hlp _ (List.getElem_mem hp)
  obtain ⟨w3, hw3⟩ : ∃ X : World, X = w2.alloc (.cells #[.int .u64 (s1 : Int), .int .u64 (s2 : Int), .int .u64 (n : Int)] tEn) := ⟨_, rfl⟩
  have hb3 : Below w2.heap.size w2 w3 := by rw [hw3]; exact al (Below.refl _ _) _
  have HE3 : Hid (RdE w3 (some ⟨w2.heap.size, 0, none⟩) [mkE (s1, s2) n]) := rdE_one s1 s2 n (by rw [hw3]; exact heap_alloc_new w2 _)
  have HR3 : Hid (RdE w3 a P[p']) := hr.below hb3
  have HI3 : Hid (IdxAt w3 g S P v vs) := HI2.out.below hb3
  have HB3 : Hid (Below w.heap.size w w3) := below_next HB2.out hb3
  have HK0 : Hid (K0 = P[p'].length) := hK0
  have HV : Hid _ := hv
  obtain ⟨b4, o4, ha⟩ : ∃ b4 o4, a = some ⟨b4, o4, none⟩ := by
    have h9 : 0 < P[p'].length := hsp.1 _ (List.getElem_mem hp)
    obtain ⟨b4, o4, h8, -⟩ := hr 0 h9
    exact ⟨b4, o4, h8⟩
  subst ha
  clear hb2 hb3 hr hrd hnil hcap hl3 hK0 hNP hv hpl' HPL HI1 HB1 hw1
  cases ok'
  case false =>
    skip
    have hbK : i' ≤ K0 := by rcases hiK with ⟨h1, h2⟩; first | (have := h2 rfl; omega) | omega
    skip
    have hi1 : i' ≤ K0 := hiK.1
    have hic : i' ≤ c := by omega
    have hbc : i' ≤ c := by omega
    have hi0i : (0 : Int) ≤ (i' : Int) := by omega
    have hb0i : (0 : Int) ≤ (i' : Int) := by omega
    have hiKi : (i' : Int) ≤ (K0 : Int) := by omega
    have hbKi : (i' : Int) ≤ (K0 : Int) := by omega
    have HBH : Hid (i' = i') := rfl
    clear hiK
    by_cases hbc2 : c = i'
    · subst hbc2
      have HCA : Hid (∀ u, Below w3.heap.size w3 u → u.heap[w3.heap.size]? = some (.cells #[.slice (some ⟨b4, o4, none⟩) c c, .slice (some ⟨w2.heap.size, 0, none⟩) 1 1, .slice (some ⟨b4, o4, none⟩) 0 0] tPg (0, 0)) → Calls Try.prog 41 #[.slice (some ⟨w3.heap.size, 0, none⟩) 3 3] u fun e u' => ∃ v', e = .returned v' ∧ OwnE u' u.heap.size v' (putL P[p'] c false (mkE (s1, s2) n)) ∧ Below u.heap.size u u') := fun u hu hh => by
        have h9 := concatE_t w3.heap.size 0 3 [⟨some ⟨b4, o4, none⟩, c, P[p'].take c⟩, ⟨some ⟨w2.heap.size, 0, none⟩, 1, [mkE (s1, s2) n]⟩, ⟨some ⟨b4, o4, none⟩, 0, P[p'].drop c⟩] u (by simp) (fun j hj => by
          match j, hj with
          | 0, _ => exact ⟨by rw [cell_of_row _ _ _ _ _ _ hh]; simp [PartE.v, List.length_take]; rw [← HK0.out]; omega, (HR3.out.below hu).take _, fun h => by cases h⟩
          | 1, _ => exact ⟨by rw [cell_of_row _ _ _ _ _ _ hh]; rfl, HE3.out.below hu, fun h => by cases h⟩
          | 2, _ => exact ⟨by rw [cell_of_row _ _ _ _ _ _ hh]; simp [PartE.v, List.length_drop]; have := HK0.out; omega, by have e8 : P[p'].drop c = [] := List.drop_eq_nil_of_le (by have := HK0.out; omega); rw [e8]; exact fun j hj => absurd hj (Nat.not_lt_zero _), fun h => by cases h⟩) (by have := HK0.out; simp [catE, List.length_take, List.length_drop]; omega)
        have e9 : catE [⟨some ⟨b4, o4, none⟩, c, P[p'].take c⟩, ⟨some ⟨w2.heap.size, 0, none⟩, 1, [mkE (s1, s2) n]⟩, ⟨some ⟨b4, o4, none⟩, 0, P[p'].drop c⟩] = putL P[p'] c false (mkE (s1, s2) n) := by rw [HBH.out]; simp [catE, putL]
        rw [e9] at h9
        exact h9
      go_wp2_with (first | (refine wpList_load_mid rfl tSt _ rfl w.heap.size 0 rfl (sc (s1, s2)) _ hl4 Try.underlying36 rfl info_st ?_))
      rw [← hw3]
      obtain ⟨L, hL⟩ : ∃ L, L = (putL P[p'] c false (mkE (s1, s2) n)).length := ⟨_, rfl⟩
      have HL : Hid _ := hL
      have HFI : Hid (S < L) := by rw [hL]; exact hfit
      have HL2 : Hid (L ≤ 300) := (show L ≤ 300 by rw [hL]; unfold putL; simp only [List.length_append, List.length_take, List.length_drop, List.length_singleton]; rw [← HK0.out]; omega)
      clear hL hw3
      refine wp_region_noPanic ?_
      refine wp_region_held_drew (S := (fun _ => True)) (by kernel_rfl) (by exact trivial) (fun hHeld => ?_)
      refine take_at (i := 0) 60 (v := ?_) rfl rfl (by kernel_rfl) (by kernel_rfl) (by kernel_rfl) (fun _ _ _ h => h) (by rfl) ?_ hHeld ?_
      rotate_left
      · (intro w hSw; (try dsimp only at hSw); go_simp; try with_reducible rfl)
      simp only [Act.put, List.setIfInBounds_toArray, List.set_cons_zero, List.set_cons_succ]
      refine take_at (i := 1) 61 (v := ?_) rfl rfl (by kernel_rfl) (by kernel_rfl) (by kernel_rfl) (fun _ _ _ h => h) (by rfl) ?_ hHeld ?_
      rotate_left
      · (intro w hSw; (try dsimp only at hSw); go_simp; try with_reducible rfl)
      simp only [Act.put, List.setIfInBounds_toArray, List.set_cons_zero, List.set_cons_succ]
      refine take_at (i := 2) 62 (v := ?_) rfl rfl (by kernel_rfl) (by kernel_rfl) (by kernel_rfl) (fun _ _ _ h => h) (by rfl) ?_ hHeld ?_
      rotate_left
      · (intro w hSw; (try dsimp only at hSw); go_simp; try with_reducible rfl)
      simp only [Act.put, List.setIfInBounds_toArray, List.set_cons_zero, List.set_cons_succ]
      refine take_at (i := 3) 63 (v := ?_) rfl rfl (by kernel_rfl) (by kernel_rfl) (by kernel_rfl) (fun _ _ _ h => h) (by rfl) ?_ hHeld ?_
      rotate_left
      · (intro w hSw; (try dsimp only at hSw); go_simp; try with_reducible rfl)
      simp only [Act.put, List.setIfInBounds_toArray, List.set_cons_zero, List.set_cons_succ]
      refine take_at (i := 4) 64 (v := ?_) rfl rfl (by kernel_rfl) (by kernel_rfl) (by kernel_rfl) (fun _ _ _ h => h) (by rfl) ?_ hHeld ?_
      rotate_left
      · (intro w hSw; (try dsimp only at hSw); go_simp; try with_reducible rfl)
      simp only [Act.put, List.setIfInBounds_toArray, List.set_cons_zero, List.set_cons_succ]
      refine take_at (i := 5) 65 (v := ?_) rfl rfl (by kernel_rfl) (by kernel_rfl) (by kernel_rfl) (fun _ _ _ h => h) (by rfl) ?_ hHeld ?_
      rotate_left
      · (intro w hSw; (try dsimp only at hSw); go_simp; try with_reducible rfl)
      simp only [Act.put, List.setIfInBounds_toArray, List.set_cons_zero, List.set_cons_succ]
      refine take_at (i := 6) 66 (v := ?_) rfl rfl (by kernel_rfl) (by kernel_rfl) (by kernel_rfl) (fun _ _ _ h => h) (by rfl) ?_ hHeld ?_
      rotate_left
      · (intro w hSw; (try dsimp only at hSw); go_simp; try with_reducible rfl)
      simp only [Act.put, List.setIfInBounds_toArray, List.set_cons_zero, List.set_cons_succ]
      refine take_at (i := 7) 67 (v := ?_) rfl rfl (by kernel_rfl) (by kernel_rfl) (by kernel_rfl) (fun _ _ _ h => h) (by rfl) ?_ hHeld ?_
      rotate_left
      · (intro w hSw; (try dsimp only at hSw); go_simp; try with_reducible rfl)
      simp only [Act.put, List.setIfInBounds_toArray, List.set_cons_zero, List.set_cons_succ]
      refine take_at (i := 8) 68 (v := ?_) rfl rfl (by kernel_rfl) (by kernel_rfl) (by kernel_rfl) (fun _ _ _ h => h) (by rfl) ?_ hHeld ?_
      rotate_left
      · (intro w hSw; (try dsimp only at hSw); go_simp; try with_reducible rfl)
      simp only [Act.put, List.setIfInBounds_toArray, List.set_cons_zero, List.set_cons_succ]
      refine run_at (i := 9) rfl (by kernel_rfl) (by rfl) (fun K hK => ?_)
      simp only [List.getElem_toArray, List.getElem_cons_zero, List.getElem_cons_succ]
      go_simp
      go_wp2_with fail
      refine hK.out _ _ (by exact trivial) ?_
      clear hK K
      intro hHeld2
      clear hHeld
      have hHeld := hHeld2
      clear hHeld2
      try simp only [Act.put, List.setIfInBounds_toArray, List.set_cons_zero, List.set_cons_succ]
      refine run_at (i := 10) rfl (by kernel_rfl) (by rfl) (fun K hK => ?_)
      simp only [List.getElem_toArray, List.getElem_cons_zero, List.getElem_cons_succ]
      go_simp
      first | (go_at_call 40; refine Calls.mono HRE.out ?_; rintro e w5 ⟨rfl, hix, hch⟩; have HIX : Hid _ := hix; have HCH : Hid _ := hch; clear hix hch) | (go_at_call 41; refine Calls.mono (HCA.out _ (by first | exact al (Below.refl _ _).drew _ | exact (al (Below.refl _ _) _).drew) (by exact heap_alloc_new w3 _)) ?_; rintro e w4 ⟨v4, rfl, hown4, hb4⟩; have HB4 : Hid (Below w3.heap.size w3 w4) := (by first | exact below_next (al (Below.refl _ _).drew _) hb4 | exact below_next (al (Below.refl _ _) _).drew hb4); obtain ⟨a4, c4, e4, hc4, hn4, hr4⟩ := OwnE.val hown4; rw [← HL.out] at e4 hc4; subst e4; obtain ⟨b9, o9, ha9, -⟩ := hr4 0 (by have := HL.out; have := HFI.out; omega); subst ha9; have HRE : Hid _ := replace_x (HI3.out.below HB4.out) p' (p' + 1) hp rfl b9 o9 L c4 _ HL.out hr4 hc4 HFI.out HL2.out hS hPl _ rfl; clear hown4 hb4 hc4 hn4 hr4)
      go_wp2_with fail
      refine hK.out _ _ (by exact trivial) ?_
      clear hK K
      intro hHeld2
      clear hHeld
      have hHeld := hHeld2
      clear hHeld2
      try simp only [Act.put, List.setIfInBounds_toArray, List.set_cons_zero, List.set_cons_succ]
      refine run_at (i := 11) rfl (by kernel_rfl) (by rfl) (fun K hK => ?_)
      simp only [List.getElem_toArray, List.getElem_cons_zero, List.getElem_cons_succ]
      go_simp
      first | (go_at_call 40; refine Calls.mono HRE.out ?_; rintro e w5 ⟨rfl, hix, hch⟩; have HIX : Hid _ := hix; have HCH : Hid _ := hch; clear hix hch) | (go_at_call 41; refine Calls.mono (HCA.out _ (by first | exact al (Below.refl _ _).drew _ | exact (al (Below.refl _ _) _).drew) (by exact heap_alloc_new w3 _)) ?_; rintro e w4 ⟨v4, rfl, hown4, hb4⟩; have HB4 : Hid (Below w3.heap.size w3 w4) := (by first | exact below_next (al (Below.refl _ _).drew _) hb4 | exact below_next (al (Below.refl _ _) _).drew hb4); obtain ⟨a4, c4, e4, hc4, hn4, hr4⟩ := OwnE.val hown4; rw [← HL.out] at e4 hc4; subst e4; obtain ⟨b9, o9, ha9, -⟩ := hr4 0 (by have := HL.out; have := HFI.out; omega); subst ha9; have HRE : Hid _ := replace_x (HI3.out.below HB4.out) p' (p' + 1) hp rfl b9 o9 L c4 _ HL.out hr4 hc4 HFI.out HL2.out hS hPl _ rfl; clear hown4 hb4 hc4 hn4 hr4)
      go_wp2_with fail
      refine hK.out _ _ (by exact trivial) ?_
      clear hK K
      intro hHeld2
      clear hHeld
      have hHeld := hHeld2
      clear hHeld2
      try simp only [Act.put, List.setIfInBounds_toArray, List.set_cons_zero, List.set_cons_succ]
      refine wpAnyH_done (by kernel_rfl) ?_ _
      refine NoPanic.normal ?_
      go_wp2
      go_ret
      exact ⟨rfl, (by obtain ⟨v9, vs9, h8, h7⟩ := HIX.out; exact ⟨v9, vs9, h8, h7.imp id (fun ⟨b8, h6, h5⟩ => ⟨b8, h6, Nat.le_trans (Nat.le_trans HB3.out.size HB4.out.size) h5⟩)⟩), ((Chg.of_below HB3.out).trans (Chg.of_below (F := foot g v) HB4.out) (fun i hi => .inl hi)).trans HCH.out (fun i hi => .inl hi)⟩
    · have HCA : Hid (∀ u, Below w3.heap.size w3 u → u.heap[w3.heap.size]? = some (.cells #[.slice (some ⟨b4, o4, none⟩) i' c, .slice (some ⟨w2.heap.size, 0, none⟩) 1 1, .slice (some ⟨b4, o4 + i' * 3, none⟩) (K0 - i') (c - i')] tPg (0, 0)) → Calls Try.prog 41 #[.slice (some ⟨w3.heap.size, 0, none⟩) 3 3] u fun e u' => ∃ v', e = .returned v' ∧ OwnE u' u.heap.size v' (putL P[p'] i' false (mkE (s1, s2) n)) ∧ Below u.heap.size u u') := fun u hu hh => by
        have h9 := concatE_t w3.heap.size 0 3 [⟨some ⟨b4, o4, none⟩, c, P[p'].take i'⟩, ⟨some ⟨w2.heap.size, 0, none⟩, 1, [mkE (s1, s2) n]⟩, ⟨some ⟨b4, o4 + i' * 3, none⟩, (c - i'), P[p'].drop i'⟩] u (by simp) (fun j hj => by
          match j, hj with
          | 0, _ => exact ⟨by rw [cell_of_row _ _ _ _ _ _ hh]; simp [PartE.v, List.length_take]; rw [← HK0.out]; omega, (HR3.out.below hu).take _, fun h => by cases h⟩
          | 1, _ => exact ⟨by rw [cell_of_row _ _ _ _ _ _ hh]; rfl, HE3.out.below hu, fun h => by cases h⟩
          | 2, _ => exact ⟨by rw [cell_of_row _ _ _ _ _ _ hh]; simp [PartE.v, List.length_drop, HK0.out], (HR3.out.below hu).drop _, fun h => by cases h⟩) (by have := HK0.out; simp [catE, List.length_take, List.length_drop]; omega)
        have e9 : catE [⟨some ⟨b4, o4, none⟩, c, P[p'].take i'⟩, ⟨some ⟨w2.heap.size, 0, none⟩, 1, [mkE (s1, s2) n]⟩, ⟨some ⟨b4, o4 + i' * 3, none⟩, (c - i'), P[p'].drop i'⟩] = putL P[p'] i' false (mkE (s1, s2) n) := by rw [HBH.out]; simp [catE, putL]
        rw [e9] at h9
        exact h9
      go_wp2_with (first | (refine wpList_load_mid rfl tSt _ rfl w.heap.size 0 rfl (sc (s1, s2)) _ hl4 Try.underlying36 rfl info_st ?_))
      rw [← hw3]
      obtain ⟨L, hL⟩ : ∃ L, L = (putL P[p'] i' false (mkE (s1, s2) n)).length := ⟨_, rfl⟩
      have HL : Hid _ := hL
      have HFI : Hid (S < L) := by rw [hL]; exact hfit
      have HL2 : Hid (L ≤ 300) := (show L ≤ 300 by rw [hL]; unfold putL; simp only [List.length_append, List.length_take, List.length_drop, List.length_singleton]; rw [← HK0.out]; omega)
      clear hL hw3
      refine wp_region_noPanic ?_
      refine wp_region_held_drew (S := (fun _ => True)) (by kernel_rfl) (by exact trivial) (fun hHeld => ?_)
      refine take_at (i := 0) 60 (v := ?_) rfl rfl (by kernel_rfl) (by kernel_rfl) (by kernel_rfl) (fun _ _ _ h => h) (by rfl) ?_ hHeld ?_
      rotate_left
      · (intro w hSw; (try dsimp only at hSw); go_simp; try with_reducible rfl)
      simp only [Act.put, List.setIfInBounds_toArray, List.set_cons_zero, List.set_cons_succ]
      refine take_at (i := 1) 61 (v := ?_) rfl rfl (by kernel_rfl) (by kernel_rfl) (by kernel_rfl) (fun _ _ _ h => h) (by rfl) ?_ hHeld ?_
      rotate_left
      · (intro w hSw; (try dsimp only at hSw); go_simp; try with_reducible rfl)
      simp only [Act.put, List.setIfInBounds_toArray, List.set_cons_zero, List.set_cons_succ]
      refine take_at (i := 2) 62 (v := ?_) rfl rfl (by kernel_rfl) (by kernel_rfl) (by kernel_rfl) (fun _ _ _ h => h) (by rfl) ?_ hHeld ?_
      rotate_left
      · (intro w hSw; (try dsimp only at hSw); go_simp; try with_reducible rfl)
      simp only [Act.put, List.setIfInBounds_toArray, List.set_cons_zero, List.set_cons_succ]
      refine take_at (i := 3) 63 (v := ?_) rfl rfl (by kernel_rfl) (by kernel_rfl) (by kernel_rfl) (fun _ _ _ h => h) (by rfl) ?_ hHeld ?_
      rotate_left
      · (intro w hSw; (try dsimp only at hSw); go_simp; try with_reducible rfl)
      simp only [Act.put, List.setIfInBounds_toArray, List.set_cons_zero, List.set_cons_succ]
      refine take_at (i := 4) 64 (v := ?_) rfl rfl (by kernel_rfl) (by kernel_rfl) (by kernel_rfl) (fun _ _ _ h => h) (by rfl) ?_ hHeld ?_
      rotate_left
      · (intro w hSw; (try dsimp only at hSw); go_simp; try with_reducible rfl)
      simp only [Act.put, List.setIfInBounds_toArray, List.set_cons_zero, List.set_cons_succ]
      refine take_at (i := 5) 65 (v := ?_) rfl rfl (by kernel_rfl) (by kernel_rfl) (by kernel_rfl) (fun _ _ _ h => h) (by rfl) ?_ hHeld ?_
      rotate_left
      · (intro w hSw; (try dsimp only at hSw); go_simp; try with_reducible rfl)
      simp only [Act.put, List.setIfInBounds_toArray, List.set_cons_zero, List.set_cons_succ]
      refine take_at (i := 6) 66 (v := ?_) rfl rfl (by kernel_rfl) (by kernel_rfl) (by kernel_rfl) (fun _ _ _ h => h) (by rfl) ?_ hHeld ?_
      rotate_left
      · (intro w hSw; (try dsimp only at hSw); go_simp; try with_reducible rfl)
      simp only [Act.put, List.setIfInBounds_toArray, List.set_cons_zero, List.set_cons_succ]
      refine take_at (i := 7) 67 (v := ?_) rfl rfl (by kernel_rfl) (by kernel_rfl) (by kernel_rfl) (fun _ _ _ h => h) (by rfl) ?_ hHeld ?_
      rotate_left
      · (intro w hSw; (try dsimp only at hSw); go_simp; try with_reducible rfl)
      simp only [Act.put, List.setIfInBounds_toArray, List.set_cons_zero, List.set_cons_succ]
      refine take_at (i := 8) 68 (v := ?_) rfl rfl (by kernel_rfl) (by kernel_rfl) (by kernel_rfl) (fun _ _ _ h => h) (by rfl) ?_ hHeld ?_
      rotate_left
      · (intro w hSw; (try dsimp only at hSw); go_simp; try with_reducible rfl)
      simp only [Act.put, List.setIfInBounds_toArray, List.set_cons_zero, List.set_cons_succ]
      refine run_at (i := 9) rfl (by kernel_rfl) (by rfl) (fun K hK => ?_)
      simp only [List.getElem_toArray, List.getElem_cons_zero, List.getElem_cons_succ]
      go_simp
      go_wp2_with fail
      refine hK.out _ _ (by exact trivial) ?_
      clear hK K
      intro hHeld2
      clear hHeld
      have hHeld := hHeld2
      clear hHeld2
      try simp only [Act.put, List.setIfInBounds_toArray, List.set_cons_zero, List.set_cons_succ]
      refine run_at (i := 10) rfl (by kernel_rfl) (by rfl) (fun K hK => ?_)
      simp only [List.getElem_toArray, List.getElem_cons_zero, List.getElem_cons_succ]
      go_simp
      first | (go_at_call 40; refine Calls.mono HRE.out ?_; rintro e w5 ⟨rfl, hix, hch⟩; have HIX : Hid _ := hix; have HCH : Hid _ := hch; clear hix hch) | (go_at_call 41; refine Calls.mono (HCA.out _ (by first | exact al (Below.refl _ _).drew _ | exact (al (Below.refl _ _) _).drew) (by exact heap_alloc_new w3 _)) ?_; rintro e w4 ⟨v4, rfl, hown4, hb4⟩; have HB4 : Hid (Below w3.heap.size w3 w4) := (by first | exact below_next (al (Below.refl _ _).drew _) hb4 | exact below_next (al (Below.refl _ _) _).drew hb4); obtain ⟨a4, c4, e4, hc4, hn4, hr4⟩ := OwnE.val hown4; rw [← HL.out] at e4 hc4; subst e4; obtain ⟨b9, o9, ha9, -⟩ := hr4 0 (by have := HL.out; have := HFI.out; omega); subst ha9; have HRE : Hid _ := replace_x (HI3.out.below HB4.out) p' (p' + 1) hp rfl b9 o9 L c4 _ HL.out hr4 hc4 HFI.out HL2.out hS hPl _ rfl; clear hown4 hb4 hc4 hn4 hr4)
      go_wp2_with fail
      refine hK.out _ _ (by exact trivial) ?_
      clear hK K
      intro hHeld2
      clear hHeld
      have hHeld := hHeld2
      clear hHeld2
      try simp only [Act.put, List.setIfInBounds_toArray, List.set_cons_zero, List.set_cons_succ]
      refine run_at (i := 11) rfl (by kernel_rfl) (by rfl) (fun K hK => ?_)
      simp only [List.getElem_toArray, List.getElem_cons_zero, List.getElem_cons_succ]
      go_simp
      first | (go_at_call 40; refine Calls.mono HRE.out ?_; rintro e w5 ⟨rfl, hix, hch⟩; have HIX : Hid _ := hix; have HCH : Hid _ := hch; clear hix hch) | (go_at_call 41; refine Calls.mono (HCA.out _ (by first | exact al (Below.refl _ _).drew _ | exact (al (Below.refl _ _) _).drew) (by exact heap_alloc_new w3 _)) ?_; rintro e w4 ⟨v4, rfl, hown4, hb4⟩; have HB4 : Hid (Below w3.heap.size w3 w4) := (by first | exact below_next (al (Below.refl _ _).drew _) hb4 | exact below_next (al (Below.refl _ _) _).drew hb4); obtain ⟨a4, c4, e4, hc4, hn4, hr4⟩ := OwnE.val hown4; rw [← HL.out] at e4 hc4; subst e4; obtain ⟨b9, o9, ha9, -⟩ := hr4 0 (by have := HL.out; have := HFI.out; omega); subst ha9; have HRE : Hid _ := replace_x (HI3.out.below HB4.out) p' (p' + 1) hp rfl b9 o9 L c4 _ HL.out hr4 hc4 HFI.out HL2.out hS hPl _ rfl; clear hown4 hb4 hc4 hn4 hr4)
      go_wp2_with fail
      refine hK.out _ _ (by exact trivial) ?_
      clear hK K
      intro hHeld2
      clear hHeld
      have hHeld := hHeld2
      clear hHeld2
      try simp only [Act.put, List.setIfInBounds_toArray, List.set_cons_zero, List.set_cons_succ]
      refine wpAnyH_done (by kernel_rfl) ?_ _
      refine NoPanic.normal ?_
      go_wp2
      go_ret
      exact ⟨rfl, (by obtain ⟨v9, vs9, h8, h7⟩ := HIX.out; exact ⟨v9, vs9, h8, h7.imp id (fun ⟨b8, h6, h5⟩ => ⟨b8, h6, Nat.le_trans (Nat.le_trans HB3.out.size HB4.out.size) h5⟩)⟩), ((Chg.of_below HB3.out).trans (Chg.of_below (F := foot g v) HB4.out) (fun i hi => .inl hi)).trans HCH.out (fun i hi => .inl hi)⟩
  case true =>
    obtain ⟨bh, hbh⟩ : ∃ bh : Nat, bh = (i' + 1) := ⟨_, rfl⟩
    have hbK : bh ≤ K0 := by rcases hiK with ⟨h1, h2⟩; first | (have := h2 rfl; omega) | omega
    have hwb : IntKind.i64.wrap ((i' : Int) + 1) = (bh : Int) := by rw [IntKind.wrap_i64]; omega
    have hi1 : i' ≤ K0 := hiK.1
    have hic : i' ≤ c := by omega
    have hbc : bh ≤ c := by omega
    have hi0i : (0 : Int) ≤ (i' : Int) := by omega
    have hb0i : (0 : Int) ≤ (bh : Int) := by omega
    have hiKi : (i' : Int) ≤ (K0 : Int) := by omega
    have hbKi : (bh : Int) ≤ (K0 : Int) := by omega
    have HBH : Hid (bh = (i' + 1)) := hbh
    clear hbh hiK
    by_cases hbc2 : c = bh
    · subst hbc2
      have HCA : Hid (∀ u, Below w3.heap.size w3 u → u.heap[w3.heap.size]? = some (.cells #[.slice (some ⟨b4, o4, none⟩) i' c, .slice (some ⟨w2.heap.size, 0, none⟩) 1 1, .slice (some ⟨b4, o4, none⟩) 0 0] tPg (0, 0)) → Calls Try.prog 41 #[.slice (some ⟨w3.heap.size, 0, none⟩) 3 3] u fun e u' => ∃ v', e = .returned v' ∧ OwnE u' u.heap.size v' (putL P[p'] i' true (mkE (s1, s2) n)) ∧ Below u.heap.size u u') := fun u hu hh => by
        have h9 := concatE_t w3.heap.size 0 3 [⟨some ⟨b4, o4, none⟩, c, P[p'].take i'⟩, ⟨some ⟨w2.heap.size, 0, none⟩, 1, [mkE (s1, s2) n]⟩, ⟨some ⟨b4, o4, none⟩, 0, P[p'].drop c⟩] u (by simp) (fun j hj => by
          match j, hj with
          | 0, _ => exact ⟨by rw [cell_of_row _ _ _ _ _ _ hh]; simp [PartE.v, List.length_take]; rw [← HK0.out]; omega, (HR3.out.below hu).take _, fun h => by cases h⟩
          | 1, _ => exact ⟨by rw [cell_of_row _ _ _ _ _ _ hh]; rfl, HE3.out.below hu, fun h => by cases h⟩
          | 2, _ => exact ⟨by rw [cell_of_row _ _ _ _ _ _ hh]; simp [PartE.v, List.length_drop]; have := HK0.out; omega, by have e8 : P[p'].drop c = [] := List.drop_eq_nil_of_le (by have := HK0.out; omega); rw [e8]; exact fun j hj => absurd hj (Nat.not_lt_zero _), fun h => by cases h⟩) (by have := HK0.out; simp [catE, List.length_take, List.length_drop]; omega)
        have e9 : catE [⟨some ⟨b4, o4, none⟩, c, P[p'].take i'⟩, ⟨some ⟨w2.heap.size, 0, none⟩, 1, [mkE (s1, s2) n]⟩, ⟨some ⟨b4, o4, none⟩, 0, P[p'].drop c⟩] = putL P[p'] i' true (mkE (s1, s2) n) := by rw [HBH.out]; simp [catE, putL]
        rw [e9] at h9
        exact h9
      go_wp2_with (first | (refine wpList_load_mid rfl tSt _ rfl w.heap.size 0 rfl (sc (s1, s2)) _ hl4 Try.underlying36 rfl info_st ?_))
      rw [← hw3]
      obtain ⟨L, hL⟩ : ∃ L, L = (putL P[p'] i' true (mkE (s1, s2) n)).length := ⟨_, rfl⟩
      have HL : Hid _ := hL
      have HFI : Hid (S < L) := by rw [hL]; exact hfit
      have HL2 : Hid (L ≤ 300) := (show L ≤ 300 by rw [hL]; unfold putL; simp only [List.length_append, List.length_take, List.length_drop, List.length_singleton]; rw [← HK0.out]; omega)
      clear hL hw3
      refine wp_region_noPanic ?_
      refine wp_region_held_drew (S := (fun _ => True)) (by kernel_rfl) (by exact trivial) (fun hHeld => ?_)
      refine take_at (i := 0) 60 (v := ?_) rfl rfl (by kernel_rfl) (by kernel_rfl) (by kernel_rfl) (fun _ _ _ h => h) (by rfl) ?_ hHeld ?_
      rotate_left
      · (intro w hSw; (try dsimp only at hSw); go_simp; try with_reducible rfl)
      simp only [Act.put, List.setIfInBounds_toArray, List.set_cons_zero, List.set_cons_succ]
      refine take_at (i := 1) 61 (v := ?_) rfl rfl (by kernel_rfl) (by kernel_rfl) (by kernel_rfl) (fun _ _ _ h => h) (by rfl) ?_ hHeld ?_
      rotate_left
      · (intro w hSw; (try dsimp only at hSw); go_simp; try with_reducible rfl)
      simp only [Act.put, List.setIfInBounds_toArray, List.set_cons_zero, List.set_cons_succ]
      refine take_at (i := 2) 62 (v := ?_) rfl rfl (by kernel_rfl) (by kernel_rfl) (by kernel_rfl) (fun _ _ _ h => h) (by rfl) ?_ hHeld ?_
      rotate_left
      · (intro w hSw; (try dsimp only at hSw); go_simp; try with_reducible rfl)
      simp only [Act.put, List.setIfInBounds_toArray, List.set_cons_zero, List.set_cons_succ]
      refine take_at (i := 3) 63 (v := ?_) rfl rfl (by kernel_rfl) (by kernel_rfl) (by kernel_rfl) (fun _ _ _ h => h) (by rfl) ?_ hHeld ?_
      rotate_left
      · (intro w hSw; (try dsimp only at hSw); go_simp; try with_reducible rfl)
      simp only [Act.put, List.setIfInBounds_toArray, List.set_cons_zero, List.set_cons_succ]
      refine take_at (i := 4) 64 (v := ?_) rfl rfl (by kernel_rfl) (by kernel_rfl) (by kernel_rfl) (fun _ _ _ h => h) (by rfl) ?_ hHeld ?_
      rotate_left
      · (intro w hSw; (try dsimp only at hSw); go_simp; try with_reducible rfl)
      simp only [Act.put, List.setIfInBounds_toArray, List.set_cons_zero, List.set_cons_succ]
      refine take_at (i := 5) 65 (v := ?_) rfl rfl (by kernel_rfl) (by kernel_rfl) (by kernel_rfl) (fun _ _ _ h => h) (by rfl) ?_ hHeld ?_
      rotate_left
      · (intro w hSw; (try dsimp only at hSw); go_simp; try with_reducible rfl)
      simp only [Act.put, List.setIfInBounds_toArray, List.set_cons_zero, List.set_cons_succ]
      refine take_at (i := 6) 66 (v := ?_) rfl rfl (by kernel_rfl) (by kernel_rfl) (by kernel_rfl) (fun _ _ _ h => h) (by rfl) ?_ hHeld ?_
      rotate_left
      · (intro w hSw; (try dsimp only at hSw); go_simp; try with_reducible rfl)
      simp only [Act.put, List.setIfInBounds_toArray, List.set_cons_zero, List.set_cons_succ]
      refine take_at (i := 7) 67 (v := ?_) rfl rfl (by kernel_rfl) (by kernel_rfl) (by kernel_rfl) (fun _ _ _ h => h) (by rfl) ?_ hHeld ?_
      rotate_left
      · (intro w hSw; (try dsimp only at hSw); go_simp; try with_reducible rfl)
      simp only [Act.put, List.setIfInBounds_toArray, List.set_cons_zero, List.set_cons_succ]
      refine take_at (i := 8) 68 (v := ?_) rfl rfl (by kernel_rfl) (by kernel_rfl) (by kernel_rfl) (fun _ _ _ h => h) (by rfl) ?_ hHeld ?_
      rotate_left
      · (intro w hSw; (try dsimp only at hSw); go_simp; try with_reducible rfl)
      simp only [Act.put, List.setIfInBounds_toArray, List.set_cons_zero, List.set_cons_succ]
      refine run_at (i := 9) rfl (by kernel_rfl) (by rfl) (fun K hK => ?_)
      simp only [List.getElem_toArray, List.getElem_cons_zero, List.getElem_cons_succ]
      go_simp
      go_wp2_with fail
      refine hK.out _ _ (by exact trivial) ?_
      clear hK K
      intro hHeld2
      clear hHeld
      have hHeld := hHeld2
      clear hHeld2
      try simp only [Act.put, List.setIfInBounds_toArray, List.set_cons_zero, List.set_cons_succ]
      refine run_at (i := 10) rfl (by kernel_rfl) (by rfl) (fun K hK => ?_)
      simp only [List.getElem_toArray, List.getElem_cons_zero, List.getElem_cons_succ]
      go_simp
      first | (go_at_call 40; refine Calls.mono HRE.out ?_; rintro e w5 ⟨rfl, hix, hch⟩; have HIX : Hid _ := hix; have HCH : Hid _ := hch; clear hix hch) | (go_at_call 41; refine Calls.mono (HCA.out _ (by first | exact al (Below.refl _ _).drew _ | exact (al (Below.refl _ _) _).drew) (by exact heap_alloc_new w3 _)) ?_; rintro e w4 ⟨v4, rfl, hown4, hb4⟩; have HB4 : Hid (Below w3.heap.size w3 w4) := (by first | exact below_next (al (Below.refl _ _).drew _) hb4 | exact below_next (al (Below.refl _ _) _).drew hb4); obtain ⟨a4, c4, e4, hc4, hn4, hr4⟩ := OwnE.val hown4; rw [← HL.out] at e4 hc4; subst e4; obtain ⟨b9, o9, ha9, -⟩ := hr4 0 (by have := HL.out; have := HFI.out; omega); subst ha9; have HRE : Hid _ := replace_x (HI3.out.below HB4.out) p' (p' + 1) hp rfl b9 o9 L c4 _ HL.out hr4 hc4 HFI.out HL2.out hS hPl _ rfl; clear hown4 hb4 hc4 hn4 hr4)
      go_wp2_with fail
      refine hK.out _ _ (by exact trivial) ?_
      clear hK K
      intro hHeld2
      clear hHeld
      have hHeld := hHeld2
      clear hHeld2
      try simp only [Act.put, List.setIfInBounds_toArray, List.set_cons_zero, List.set_cons_succ]
      refine run_at (i := 11) rfl (by kernel_rfl) (by rfl) (fun K hK => ?_)
      simp only [List.getElem_toArray, List.getElem_cons_zero, List.getElem_cons_succ]
      go_simp
      first | (go_at_call 40; refine Calls.mono HRE.out ?_; rintro e w5 ⟨rfl, hix, hch⟩; have HIX : Hid _ := hix; have HCH : Hid _ := hch; clear hix hch) | (go_at_call 41; refine Calls.mono (HCA.out _ (by first | exact al (Below.refl _ _).drew _ | exact (al (Below.refl _ _) _).drew) (by exact heap_alloc_new w3 _)) ?_; rintro e w4 ⟨v4, rfl, hown4, hb4⟩; have HB4 : Hid (Below w3.heap.size w3 w4) := (by first | exact below_next (al (Below.refl _ _).drew _) hb4 | exact below_next (al (Below.refl _ _) _).drew hb4); obtain ⟨a4, c4, e4, hc4, hn4, hr4⟩ := OwnE.val hown4; rw [← HL.out] at e4 hc4; subst e4; obtain ⟨b9, o9, ha9, -⟩ := hr4 0 (by have := HL.out; have := HFI.out; omega); subst ha9; have HRE : Hid _ := replace_x (HI3.out.below HB4.out) p' (p' + 1) hp rfl b9 o9 L c4 _ HL.out hr4 hc4 HFI.out HL2.out hS hPl _ rfl; clear hown4 hb4 hc4 hn4 hr4)
      go_wp2_with fail
      refine hK.out _ _ (by exact trivial) ?_
      clear hK K
      intro hHeld2
      clear hHeld
      have hHeld := hHeld2
      clear hHeld2
      try simp only [Act.put, List.setIfInBounds_toArray, List.set_cons_zero, List.set_cons_succ]
      refine wpAnyH_done (by kernel_rfl) ?_ _
      refine NoPanic.normal ?_
      go_wp2
      go_ret
      exact ⟨rfl, (by obtain ⟨v9, vs9, h8, h7⟩ := HIX.out; exact ⟨v9, vs9, h8, h7.imp id (fun ⟨b8, h6, h5⟩ => ⟨b8, h6, Nat.le_trans (Nat.le_trans HB3.out.size HB4.out.size) h5⟩)⟩), ((Chg.of_below HB3.out).trans (Chg.of_below (F := foot g v) HB4.out) (fun i hi => .inl hi)).trans HCH.out (fun i hi => .inl hi)⟩
    · have HCA : Hid (∀ u, Below w3.heap.size w3 u → u.heap[w3.heap.size]? = some (.cells #[.slice (some ⟨b4, o4, none⟩) i' c, .slice (some ⟨w2.heap.size, 0, none⟩) 1 1, .slice (some ⟨b4, o4 + bh * 3, none⟩) (K0 - bh) (c - bh)] tPg (0, 0)) → Calls Try.prog 41 #[.slice (some ⟨w3.heap.size, 0, none⟩) 3 3] u fun e u' => ∃ v', e = .returned v' ∧ OwnE u' u.heap.size v' (putL P[p'] i' true (mkE (s1, s2) n)) ∧ Below u.heap.size u u') := fun u hu hh => by
        have h9 := concatE_t w3.heap.size 0 3 [⟨some ⟨b4, o4, none⟩, c, P[p'].take i'⟩, ⟨some ⟨w2.heap.size, 0, none⟩, 1, [mkE (s1, s2) n]⟩, ⟨some ⟨b4, o4 + bh * 3, none⟩, (c - bh), P[p'].drop bh⟩] u (by simp) (fun j hj => by
          match j, hj with
          | 0, _ => exact ⟨by rw [cell_of_row _ _ _ _ _ _ hh]; simp [PartE.v, List.length_take]; rw [← HK0.out]; omega, (HR3.out.below hu).take _, fun h => by cases h⟩
          | 1, _ => exact ⟨by rw [cell_of_row _ _ _ _ _ _ hh]; rfl, HE3.out.below hu, fun h => by cases h⟩
          | 2, _ => exact ⟨by rw [cell_of_row _ _ _ _ _ _ hh]; simp [PartE.v, List.length_drop, HK0.out], (HR3.out.below hu).drop _, fun h => by cases h⟩) (by have := HK0.out; simp [catE, List.length_take, List.length_drop]; omega)
        have e9 : catE [⟨some ⟨b4, o4, none⟩, c, P[p'].take i'⟩, ⟨some ⟨w2.heap.size, 0, none⟩, 1, [mkE (s1, s2) n]⟩, ⟨some ⟨b4, o4 + bh * 3, none⟩, (c - bh), P[p'].drop bh⟩] = putL P[p'] i' true (mkE (s1, s2) n) := by rw [HBH.out]; simp [catE, putL]
        rw [e9] at h9
        exact h9
      go_wp2_with (first | (refine wpList_load_mid rfl tSt _ rfl w.heap.size 0 rfl (sc (s1, s2)) _ hl4 Try.underlying36 rfl info_st ?_))
      rw [← hw3]
      obtain ⟨L, hL⟩ : ∃ L, L = (putL P[p'] i' true (mkE (s1, s2) n)).length := ⟨_, rfl⟩
      have HL : Hid _ := hL
      have HFI : Hid (S < L) := by rw [hL]; exact hfit
      have HL2 : Hid (L ≤ 300) := (show L ≤ 300 by rw [hL]; unfold putL; simp only [List.length_append, List.length_take, List.length_drop, List.length_singleton]; rw [← HK0.out]; omega)
      clear hL hw3
      refine wp_region_noPanic ?_
      refine wp_region_held_drew (S := (fun _ => True)) (by kernel_rfl) (by exact trivial) (fun hHeld => ?_)
      refine take_at (i := 0) 60 (v := ?_) rfl rfl (by kernel_rfl) (by kernel_rfl) (by kernel_rfl) (fun _ _ _ h => h) (by rfl) ?_ hHeld ?_
      rotate_left
      · (intro w hSw; (try dsimp only at hSw); go_simp; try with_reducible rfl)
      simp only [Act.put, List.setIfInBounds_toArray, List.set_cons_zero, List.set_cons_succ]
      refine take_at (i := 1) 61 (v := ?_) rfl rfl (by kernel_rfl) (by kernel_rfl) (by kernel_rfl) (fun _ _ _ h => h) (by rfl) ?_ hHeld ?_
      rotate_left
      · (intro w hSw; (try dsimp only at hSw); go_simp; try with_reducible rfl)
      simp only [Act.put, List.setIfInBounds_toArray, List.set_cons_zero, List.set_cons_succ]
      refine take_at (i := 2) 62 (v := ?_) rfl rfl (by kernel_rfl) (by kernel_rfl) (by kernel_rfl) (fun _ _ _ h => h) (by rfl) ?_ hHeld ?_
      rotate_left
      · (intro w hSw; (try dsimp only at hSw); go_simp; try with_reducible rfl)
      simp only [Act.put, List.setIfInBounds_toArray, List.set_cons_zero, List.set_cons_succ]
      refine take_at (i := 3) 63 (v := ?_) rfl rfl (by kernel_rfl) (by kernel_rfl) (by kernel_rfl) (fun _ _ _ h => h) (by rfl) ?_ hHeld ?_
      rotate_left
      · (intro w hSw; (try dsimp only at hSw); go_simp; try with_reducible rfl)
      simp only [Act.put, List.setIfInBounds_toArray, List.set_cons_zero, List.set_cons_succ]
      refine take_at (i := 4) 64 (v := ?_) rfl rfl (by kernel_rfl) (by kernel_rfl) (by kernel_rfl) (fun _ _ _ h => h) (by rfl) ?_ hHeld ?_
      rotate_left
      · (intro w hSw; (try dsimp only at hSw); go_simp; try with_reducible rfl)
      simp only [Act.put, List.setIfInBounds_toArray, List.set_cons_zero, List.set_cons_succ]
      refine take_at (i := 5) 65 (v := ?_) rfl rfl (by kernel_rfl) (by kernel_rfl) (by kernel_rfl) (fun _ _ _ h => h) (by rfl) ?_ hHeld ?_
      rotate_left
      · (intro w hSw; (try dsimp only at hSw); go_simp; try with_reducible rfl)
      simp only [Act.put, List.setIfInBounds_toArray, List.set_cons_zero, List.set_cons_succ]
      refine take_at (i := 6) 66 (v := ?_) rfl rfl (by kernel_rfl) (by kernel_rfl) (by kernel_rfl) (fun _ _ _ h => h) (by rfl) ?_ hHeld ?_
      rotate_left
      · (intro w hSw; (try dsimp only at hSw); go_simp; try with_reducible rfl)
      simp only [Act.put, List.setIfInBounds_toArray, List.set_cons_zero, List.set_cons_succ]
      refine take_at (i := 7) 67 (v := ?_) rfl rfl (by kernel_rfl) (by kernel_rfl) (by kernel_rfl) (fun _ _ _ h => h) (by rfl) ?_ hHeld ?_
      rotate_left
      · (intro w hSw; (try dsimp only at hSw); go_simp; try with_reducible rfl)
      simp only [Act.put, List.setIfInBounds_toArray, List.set_cons_zero, List.set_cons_succ]
      refine take_at (i := 8) 68 (v := ?_) rfl rfl (by kernel_rfl) (by kernel_rfl) (by kernel_rfl) (fun _ _ _ h => h) (by rfl) ?_ hHeld ?_
      rotate_left
      · (intro w hSw; (try dsimp only at hSw); go_simp; try with_reducible rfl)
      simp only [Act.put, List.setIfInBounds_toArray, List.set_cons_zero, List.set_cons_succ]
      refine run_at (i := 9) rfl (by kernel_rfl) (by rfl) (fun K hK => ?_)
      simp only [List.getElem_toArray, List.getElem_cons_zero, List.getElem_cons_succ]
      go_simp
      go_wp2_with fail
      refine hK.out _ _ (by exact trivial) ?_
      clear hK K
      intro hHeld2
      clear hHeld
      have hHeld := hHeld2
      clear hHeld2
      try simp only [Act.put, List.setIfInBounds_toArray, List.set_cons_zero, List.set_cons_succ]
      refine run_at (i := 10) rfl (by kernel_rfl) (by rfl) (fun K hK => ?_)
      simp only [List.getElem_toArray, List.getElem_cons_zero, List.getElem_cons_succ]
      go_simp
      first | (go_at_call 40; refine Calls.mono HRE.out ?_; rintro e w5 ⟨rfl, hix, hch⟩; have HIX : Hid _ := hix; have HCH : Hid _ := hch; clear hix hch) | (go_at_call 41; refine Calls.mono (HCA.out _ (by first | exact al (Below.refl _ _).drew _ | exact (al (Below.refl _ _) _).drew) (by exact heap_alloc_new w3 _)) ?_; rintro e w4 ⟨v4, rfl, hown4, hb4⟩; have HB4 : Hid (Below w3.heap.size w3 w4) := (by first | exact below_next (al (Below.refl _ _).drew _) hb4 | exact below_next (al (Below.refl _ _) _).drew hb4); obtain ⟨a4, c4, e4, hc4, hn4, hr4⟩ := OwnE.val hown4; rw [← HL.out] at e4 hc4; subst e4; obtain ⟨b9, o9, ha9, -⟩ := hr4 0 (by have := HL.out; have := HFI.out; omega); subst ha9; have HRE : Hid _ := replace_x (HI3.out.below HB4.out) p' (p' + 1) hp rfl b9 o9 L c4 _ HL.out hr4 hc4 HFI.out HL2.out hS hPl _ rfl; clear hown4 hb4 hc4 hn4 hr4)
      go_wp2_with fail
      refine hK.out _ _ (by exact trivial) ?_
      clear hK K
      intro hHeld2
      clear hHeld
      have hHeld := hHeld2
      clear hHeld2
      try simp only [Act.put, List.setIfInBounds_toArray, List.set_cons_zero, List.set_cons_succ]
      refine run_at (i := 11) rfl (by kernel_rfl) (by rfl) (fun K hK => ?_)
      simp only [List.getElem_toArray, List.getElem_cons_zero, List.getElem_cons_succ]
      go_simp
      first | (go_at_call 40; refine Calls.mono HRE.out ?_; rintro e w5 ⟨rfl, hix, hch⟩; have HIX : Hid _ := hix; have HCH : Hid _ := hch; clear hix hch) | (go_at_call 41; refine Calls.mono (HCA.out _ (by first | exact al (Below.refl _ _).drew _ | exact (al (Below.refl _ _) _).drew) (by exact heap_alloc_new w3 _)) ?_; rintro e w4 ⟨v4, rfl, hown4, hb4⟩; have HB4 : Hid (Below w3.heap.size w3 w4) := (by first | exact below_next (al (Below.refl _ _).drew _) hb4 | exact below_next (al (Below.refl _ _) _).drew hb4); obtain ⟨a4, c4, e4, hc4, hn4, hr4⟩ := OwnE.val hown4; rw [← HL.out] at e4 hc4; subst e4; obtain ⟨b9, o9, ha9, -⟩ := hr4 0 (by have := HL.out; have := HFI.out; omega); subst ha9; have HRE : Hid _ := replace_x (HI3.out.below HB4.out) p' (p' + 1) hp rfl b9 o9 L c4 _ HL.out hr4 hc4 HFI.out HL2.out hS hPl _ rfl; clear hown4 hb4 hc4 hn4 hr4)
      go_wp2_with fail
      refine hK.out _ _ (by exact trivial) ?_
      clear hK K
      intro hHeld2
      clear hHeld
      have hHeld := hHeld2
      clear hHeld2
      try simp only [Act.put, List.setIfInBounds_toArray, List.set_cons_zero, List.set_cons_succ]
      refine wpAnyH_done (by kernel_rfl) ?_ _
      refine NoPanic.normal ?_
      go_wp2
      go_ret
      exact ⟨rfl, (by obtain ⟨v9, vs9, h8, h7⟩ := HIX.out; exact ⟨v9, vs9, h8, h7.imp id (fun ⟨b8, h6, h5⟩ => ⟨b8, h6, Nat.le_trans (Nat.le_trans HB3.out.size HB4.out.size) h5⟩)⟩), ((Chg.of_below HB3.out).trans (Chg.of_below (F := foot g v) HB4.out) (fun i hi => .inl hi)).trans HCH.out (fun i hi => .inl hi)⟩
end
end Go.Proofs.Ytibolgpaolnheac
namespace Go.Proofs.Ytibolgpaolnheac
set_option linter.unusedVariables false
set_option linter.unusedSimpArgs false
open Go.RowKit
variable {w w' : World} {g S : Nat} {P : List (List Ent)} {v : Value} {vs : List Value}
theorem found_ex (p : Nat → Bool) : ∀ n, (∀ a b, a ≤ b → b < n → p a = true → p b = true) → ∃ r, Found n p r
  | 0, _ => ⟨0, Nat.le_refl _, fun k hk => absurd hk (Nat.not_lt_zero _), fun k _ hk => absurd hk (Nat.not_lt_zero _)⟩
  | n + 1, hm => by
    obtain ⟨r, h1, h2, h3⟩ := found_ex p n (fun a b hab hb ha => hm a b hab (by omega) ha)
    by_cases hr : r < n
    · exact ⟨r, by omega, h2, fun k hk hk2 => by
        by_cases hk3 : k < n
        · exact h3 k hk hk3
        · exact hm r k hk hk2 (h3 r (Nat.le_refl _) hr)⟩
    · obtain rfl : r = n := by omega
      cases hp : p r
      · exact ⟨r + 1, Nat.le_refl _, fun k hk => by
          by_cases hk2 : k < r
          · exact h2 k hk2
          · obtain rfl : k = r := by omega
            exact hp, fun k hk hk2 => absurd hk (by omega)⟩
      · exact ⟨r, by omega, h2, fun k hk hk2 => by
          obtain rfl : k = r := by omega
          exact hp⟩
theorem place_ex (hsp : SP P) (s : St) : ∃ p i ok, PlaceIs P s p i ok := by
  by_cases hne : P = []
  · exact ⟨0, 0, false, .inl ⟨hne, rfl, rfl, rfl⟩⟩
  · obtain ⟨r, hr⟩ := found_ex (pr1 P s) P.length (hsp.mono1 s)
    have hpos : 0 < P.length := List.length_pos_iff.2 hne
    have hp : r - 1 < P.length := by have := hr.1; omega
    have eP : P.getD (r - 1) [] = P[r - 1] := by simp [List.getD, hp]
    obtain ⟨i, hi⟩ := found_ex (pr2 P[r - 1] s) P[r - 1].length (mono2 (hsp.page (List.getElem_mem hp)) s)
    by_cases hok : ∃ h : i < P[r - 1].length, P[r - 1][i].st = s
    · exact ⟨r - 1, i, true, .inr ⟨r, hr, rfl, hp, by rw [eP]; exact hi, by rw [eP]; exact ⟨fun _ => hok, fun _ => rfl⟩⟩⟩
    · exact ⟨r - 1, i, false, .inr ⟨r, hr, rfl, hp, by rw [eP]; exact hi, by rw [eP]; exact ⟨fun h => (by cases h), fun h => absurd h hok⟩⟩⟩
/-- where the row lies from now on -/
def Lies (w : World) (v v' : Value) : Prop := v'.ownBlock = v.ownBlock ∨ ∃ b, v'.ownBlock = some b ∧ w.heap.size ≤ b
/-- Put, whatever the index has -/
theorem put_t (h : IdxAt w g S P v vs) (ht : Tid S P) (hS : 1 ≤ S ∧ S ≤ 64) (hPl : P.length ≤ 4398046511104) (s1 s2 n : Nat) :
    Calls Try.prog 17 #[.pointer (some ⟨g, 0, none⟩), sv (s1, s2), .int .u64 (n : Int)] w fun e w' => ∃ p i ok v' vs', PlaceIs P (s1, s2) p i ok ∧ e = .returned (.bool (!ok)) ∧ IdxAt w' g S (putP S P p i ok (mkE (s1, s2) n)) v' vs' ∧ Lies w v v' ∧ Chg (foot g v) w w' := by
  obtain ⟨hsp, hsz⟩ := ht
  obtain ⟨p, i, ok, hpl⟩ := place_ex hsp (s1, s2)
  have hlp : ∀ q ∈ P, q.length ≤ 100 := fun q hq => by have := hsz q hq; omega
  by_cases hne : P = []
  · obtain ⟨rfl, rfl, rfl⟩ := hpl.nil hne
    subst hne
    refine (put_first h hS s1 s2 n).mono ?_
    rintro e w' ⟨rfl, ⟨v', vs', h1, h2⟩, h3⟩
    exact ⟨0, 0, false, v', vs', hpl, rfl, by rw [putP_nil S hS.1]; exact h1, h2, h3⟩
  · have hp := hpl.lt hne
    have eP : P.getD p [] = P[p] := by simp [List.getD, hp]
    by_cases hfit : (putL P[p] i ok (mkE (s1, s2) n)).length ≤ S
    · refine (put_in h hsp hS hPl hlp s1 s2 n p i ok hpl hp hfit).mono ?_
      rintro e w' ⟨rfl, ⟨vs', h1⟩, h3⟩
      refine ⟨p, i, ok, v, vs', hpl, rfl, ?_, .inl rfl, h3⟩
      unfold putP
      rw [eP, if_pos hfit, ← repL_set hp]
      exact h1
    · refine (put_x h hsp hS hPl hlp s1 s2 n p i ok hpl hp (by omega)).mono ?_
      rintro e w' ⟨rfl, ⟨v', vs', h1, h2⟩, h3⟩
      refine ⟨p, i, ok, v', vs', hpl, rfl, ?_, h2, h3⟩
      unfold putP
      rw [eP, if_neg hfit]
      exact h1
end Go.Proofs.Ytibolgpaolnheac
