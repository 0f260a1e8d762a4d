import Derived.Test.YtibolgpaolnheaaQJn
import Derived.Test.YtibolgpaolnheaaZQFit
namespace Go.Proofs.Ytibolgpaolnheaa.Str
set_option linter.unusedVariables false
set_option linter.unusedSimpArgs false
open Go.RowKit
variable {w w' : World} {g S : Nat} {P : List (List Ent)} {v : Value} {vs : List Value}
section
set_option maxRecDepth 20000
set_option maxHeartbeats 3200000
theorem joinNext_t (h : IdxAt w g S P v vs) (p p1 p2 : Nat) (hp1 : p1 = p + 1) (hp2 : p2 = p + 2) (hp : p1 < P.length) (hPl : P.length ≤ 4398046511104) (hlp : ∀ q ∈ P, q.length ≤ 100) :
    Calls Try.prog 44 #[.pointer (some ⟨g, 0, none⟩), .int .i64 (p : Int)] w fun e w' => e = .returned (.tuple #[]) ∧ (∃ v' vs', IdxAt w' g S (repL P p p2 [P.getD p [] ++ P.getD p1 []]) v' vs' ∧ v'.ownBlock = v.ownBlock) ∧ Chg (foot g v) w w' := by
  have hrow := h.row
  have HI : Hid (IdxAt w g S P v vs) := h
  rcases h.row.2 with ⟨e, h0⟩ | ⟨rb, cap, cur, e, hB, hg, hn1, hm, r⟩
  · omega
  subst e
  obtain ⟨N, hN⟩ : ∃ N, N = P.length := ⟨_, rfl⟩
  have hcg1 : w.cell? ⟨g, 1, none⟩ = some (.slice (some ⟨rb, 0, none⟩) N cap) := by rw [hN, cell_of_row _ _ _ _ _ _ h.hd]; rfl
  have hpP : p < P.length := by omega
  obtain ⟨a1, c1, e1, hk1, hz1, hr1⟩ := h.pg p hpP
  obtain ⟨a2, c2, e2, hk2, hz2, hr2⟩ := h.pg p1 hp
  have hc1 : w.cell? ⟨rb, p, none⟩ = some (.slice a1 P[p].length c1) := by rw [World.ownsRow.cellAt hrow p (by omega), e1]
  have hc2 : w.cell? ⟨rb, p1, none⟩ = some (.slice a2 P[p1].length c2) := by rw [World.ownsRow.cellAt hrow p1 (by omega), e2]
  have hl1 := hlp _ (List.getElem_mem hpP)
  have hl2 := hlp _ (List.getElem_mem hp)
  rw [show P.getD p [] = P[p] by simp [List.getD, hpP], show P.getD p1 [] = P[p1] by simp [List.getD, hp]]
  obtain ⟨x1, hx1⟩ : ∃ x, x = P[p].length := ⟨_, rfl⟩
  obtain ⟨x2, hx2⟩ : ∃ x, x = P[p1].length := ⟨_, rfl⟩
  obtain ⟨LL, hLL⟩ : ∃ LL, LL = (P[p] ++ P[p1]).length := ⟨_, rfl⟩
  rw [← hx1] at hc1 hl1
  rw [← hx2] at hc2 hl2
  have hw1 : IntKind.i64.wrap ((p : Int) + 1) = (p1 : Int) := by rw [IntKind.wrap_i64]; omega
  have hw2 : IntKind.i64.wrap ((p : Int) + 2) = (p2 : Int) := by rw [IntKind.wrap_i64]; omega
  have hp0 : (0 : Int) ≤ (p : Int) := by omega
  have hp10 : (0 : Int) ≤ (p1 : Int) := by omega
  have hpN : (p : Int) < (N : Int) := by omega
  have hp1N : (p1 : Int) < (N : Int) := by omega
  have hpNn : p < N := by omega
  have hp1Nn : p1 < N := by omega
  have hgl : g < w.heap.size := (Array.getElem?_eq_some_iff.1 HI.out.hd).1
  have hA1 : ∀ u, Below w.heap.size w u → u.cell? ⟨g, 1, none⟩ = some (.slice (some ⟨rb, 0, none⟩) N cap) := fun u hu => (hu.cell hgl).trans hcg1
  have hA2 : ∀ u, Below w.heap.size w u → u.cell? ⟨rb, p, none⟩ = some (.slice a1 x1 c1) := fun u hu => (hu.cell (World.block_lt_of_cell? w _ hc1)).trans hc1
  have hA3 : ∀ u, Below w.heap.size w u → u.cell? ⟨rb, p1, none⟩ = some (.slice a2 x2 c2) := fun u hu => (hu.cell (World.block_lt_of_cell? w _ hc2)).trans hc2
  have HCA : Hid (∀ u, Below w.heap.size w u → u.heap[w.heap.size]? = some (.cells #[.slice a1 x1 c1, .slice a2 x2 c2] tPg (0, 0)) → Calls Try.prog 38 #[.slice (some ⟨w.heap.size, 0, none⟩) 2 2] u fun e u' => ∃ v', e = .returned v' ∧ OwnE u' u.heap.size v' (P[p] ++ P[p1]) ∧ Below u.heap.size u u') := fun u hu hh => by
    have h9 := concatE_t w.heap.size 0 2 [⟨a1, c1, P[p]⟩, ⟨a2, c2, P[p1]⟩] u (by simp) (fun j hj => by
      match j, hj with
      | 0, _ => exact ⟨by rw [cell_of_row _ _ _ _ _ _ hh]; simp [PartE.v, hx1], hr1.below hu, hz1⟩
      | 1, _ => exact ⟨by rw [cell_of_row _ _ _ _ _ _ hh]; simp [PartE.v, hx2], hr2.below hu, hz2⟩) (by simp [catE]; omega)
    have e9 : catE [⟨a1, c1, P[p]⟩, ⟨a2, c2, P[p1]⟩] = P[p] ++ P[p1] := by simp [catE]
    rw [e9] at h9
    exact h9
  have HONE : Hid (∀ u ∈ vs, u.oneCell' = true) := h.one
  have HN : Hid (N = P.length) := hN
  have HP1 : Hid (p1 = p + 1) := hp1
  have HP2 : Hid (p2 = p + 2) := hp2
  have HLL : Hid (LL = (P[p] ++ P[p1]).length) := hLL
  have HPL : Hid (P.length ≤ 4398046511104) := hPl
  clear h hB hg hn1 hm r hp1 hp2 hrow hN hx1 hx2 e1 e2 hlp hcg1 hc1 hc2 hr1 hr2 hk1 hk2 hz1 hz2 hLL hPl
  go_enter Try.func44, Try.ntmps44
  go_wp2_with fail
  refine wp_region_noPanic ?_
  refine wp_region_held_drew (S := (fun u => Below w.heap.size w u)) (by kernel_rfl) (by first | exact (Below.refl _ _).drew | assumption | exact al (Below.refl _ _).drew _ | exact (al (Below.refl _ _) _).drew) (fun hHeld => ?_)
  refine take_at (i := 0) 5 (v := ?_) rfl rfl (by kernel_rfl) (by kernel_rfl) (by kernel_rfl) (fun _ _ _ h => h) (by rfl) ?_ hHeld ?_
  rotate_left
  · (intro w hSw; (try dsimp only at hSw); go_simp; try with_reducible rfl)
  simp only [Act.put, List.setIfInBounds_toArray, List.set_cons_zero, List.set_cons_succ]
  refine take_at (i := 1) 6 (v := ?_) rfl rfl (by kernel_rfl) (by kernel_rfl) (by kernel_rfl) (fun _ _ _ h => h) (by rfl) ?_ hHeld ?_
  rotate_left
  · (intro w hSw; (try dsimp only at hSw); go_simp; try with_reducible rfl)
  simp only [Act.put, List.setIfInBounds_toArray, List.set_cons_zero, List.set_cons_succ]
  refine take_at (i := 2) 7 (v := ?_) rfl rfl (by kernel_rfl) (by kernel_rfl) (by kernel_rfl) (fun _ _ _ h => h) (by rfl) ?_ hHeld ?_
  rotate_left
  · (intro w hSw; (try dsimp only at hSw); go_simp; try with_reducible rfl)
  simp only [Act.put, List.setIfInBounds_toArray, List.set_cons_zero, List.set_cons_succ]
  refine take_at (i := 3) 8 (v := ?_) rfl rfl (by kernel_rfl) (by kernel_rfl) (by kernel_rfl) (fun _ _ _ h => h) (by rfl) ?_ hHeld ?_
  rotate_left
  · (intro w hSw; (try dsimp only at hSw); go_simp; try with_reducible rfl)
  simp only [Act.put, List.setIfInBounds_toArray, List.set_cons_zero, List.set_cons_succ]
  refine take_at (i := 4) 9 (v := ?_) rfl rfl (by kernel_rfl) (by kernel_rfl) (by kernel_rfl) (fun _ _ _ h => h) (by rfl) ?_ hHeld ?_
  rotate_left
  · (intro w hSw; (try dsimp only at hSw); go_simp; try with_reducible rfl)
  simp only [Act.put, List.setIfInBounds_toArray, List.set_cons_zero, List.set_cons_succ]
  refine take_at (i := 5) 10 (v := ?_) rfl rfl (by kernel_rfl) (by kernel_rfl) (by kernel_rfl) (fun _ _ _ h => h) (by rfl) ?_ hHeld ?_
  rotate_left
  · (intro w hSw; (try dsimp only at hSw); go_simp; try with_reducible rfl)
  simp only [Act.put, List.setIfInBounds_toArray, List.set_cons_zero, List.set_cons_succ]
  refine take_at (i := 6) 11 (v := ?_) rfl rfl (by kernel_rfl) (by kernel_rfl) (by kernel_rfl) (fun _ _ _ h => h) (by rfl) ?_ hHeld ?_
  rotate_left
  · (intro w hSw; (try dsimp only at hSw); go_simp; try with_reducible rfl)
  simp only [Act.put, List.setIfInBounds_toArray, List.set_cons_zero, List.set_cons_succ]
  refine take_at (i := 7) 12 (v := ?_) rfl rfl (by kernel_rfl) (by kernel_rfl) (by kernel_rfl) (fun _ _ _ h => h) (by rfl) ?_ hHeld ?_
  rotate_left
  · (intro w hSw; (try dsimp only at hSw); go_simp; try with_reducible rfl)
  simp only [Act.put, List.setIfInBounds_toArray, List.set_cons_zero, List.set_cons_succ]
  refine take_at (i := 8) 13 (v := ?_) rfl rfl (by kernel_rfl) (by kernel_rfl) (by kernel_rfl) (fun _ _ _ h => h) (by rfl) ?_ hHeld ?_
  rotate_left
  · (intro w hSw; (try dsimp only at hSw); go_simp; try with_reducible rfl)
  simp only [Act.put, List.setIfInBounds_toArray, List.set_cons_zero, List.set_cons_succ]
  refine take_at (i := 9) 14 (v := ?_) rfl rfl (by kernel_rfl) (by kernel_rfl) (by kernel_rfl) (fun _ _ _ h => h) (by rfl) ?_ hHeld ?_
  rotate_left
  · (intro w hSw; (try dsimp only at hSw); go_simp; try with_reducible rfl)
  simp only [Act.put, List.setIfInBounds_toArray, List.set_cons_zero, List.set_cons_succ]
  refine take_at (i := 10) 15 (v := ?_) rfl rfl (by kernel_rfl) (by kernel_rfl) (by kernel_rfl) (fun _ _ _ h => h) (by rfl) ?_ hHeld ?_
  rotate_left
  · (intro w hSw; (try dsimp only at hSw); go_simp; try with_reducible rfl)
  simp only [Act.put, List.setIfInBounds_toArray, List.set_cons_zero, List.set_cons_succ]
  refine take_at (i := 11) 16 (v := ?_) rfl rfl (by kernel_rfl) (by kernel_rfl) (by kernel_rfl) (fun _ _ _ h => h) (by rfl) ?_ hHeld ?_
  rotate_left
  · (intro w hSw; (try dsimp only at hSw); go_simp; try with_reducible rfl)
  simp only [Act.put, List.setIfInBounds_toArray, List.set_cons_zero, List.set_cons_succ]
  refine take_at (i := 12) 17 (v := ?_) rfl rfl (by kernel_rfl) (by kernel_rfl) (by kernel_rfl) (fun _ _ _ h => h) (by rfl) ?_ hHeld ?_
  rotate_left
  · (intro w hSw; (try dsimp only at hSw); go_simp; try with_reducible rfl)
  simp only [Act.put, List.setIfInBounds_toArray, List.set_cons_zero, List.set_cons_succ]
  refine take_at (i := 13) 18 (v := ?_) rfl rfl (by kernel_rfl) (by kernel_rfl) (by kernel_rfl) (fun _ _ _ h => h) (by rfl) ?_ hHeld ?_
  rotate_left
  · (intro w hSw; (try dsimp only at hSw); go_simp; try with_reducible rfl)
  simp only [Act.put, List.setIfInBounds_toArray, List.set_cons_zero, List.set_cons_succ]
  refine take_at (i := 14) 19 (v := ?_) rfl rfl (by kernel_rfl) (by kernel_rfl) (by kernel_rfl) (fun _ _ _ h => h) (by rfl) ?_ hHeld ?_
  rotate_left
  · (intro w hSw; (try dsimp only at hSw); go_simp; try with_reducible rfl)
  simp only [Act.put, List.setIfInBounds_toArray, List.set_cons_zero, List.set_cons_succ]
  refine run_at (i := 15) rfl (by kernel_rfl) (by rfl) (fun K hK => ?_)
  simp only [List.getElem_toArray, List.getElem_cons_zero, List.getElem_cons_succ]
  go_simp
  go_wp2_with fail
  refine hK.out _ _ (by first | exact (Below.refl _ _).drew | assumption | exact al (Below.refl _ _).drew _ | exact (al (Below.refl _ _) _).drew) ?_
  clear hK K
  intro hHeld2
  clear hHeld
  have hHeld := hHeld2
  clear hHeld2
  try simp only [Act.put, List.setIfInBounds_toArray, List.set_cons_zero, List.set_cons_succ]
  refine run_at (i := 16) rfl (by kernel_rfl) (by rfl) (fun K hK => ?_)
  simp only [List.getElem_toArray, List.getElem_cons_zero, List.getElem_cons_succ]
  go_simp
  (go_at_call 38; refine Calls.mono (HCA.out _ (by first | exact al (Below.refl _ _).drew _ | exact (al (Below.refl _ _) _).drew) (by exact heap_alloc_new w _)) ?_; rintro e w2 ⟨v2, rfl, hown2, hb2⟩; have hbb : Below w.heap.size w w2 := (by first | exact below_next (al (Below.refl _ _).drew _) hb2 | exact below_next (al (Below.refl _ _) _).drew hb2); obtain ⟨a5, c5, e5, hc5, hn5, hr5⟩ := OwnE.val hown2; rw [← HLL.out] at e5 hc5; subst e5; have HR5 : Hid (RdE w2 a5 (P[p] ++ P[p1])) := hr5; have HQ5 : Hid (LL ≤ c5 ∧ (a5 = none → c5 = 0)) := ⟨hc5, hn5⟩; clear hown2 hb2 hc5 hn5 hr5)
  go_wp2_with fail
  refine hK.out _ _ (by first | exact (Below.refl _ _).drew | assumption | exact al (Below.refl _ _).drew _ | exact (al (Below.refl _ _) _).drew) ?_
  clear hK K
  intro hHeld2
  clear hHeld
  have hHeld := hHeld2
  clear hHeld2
  try simp only [Act.put, List.setIfInBounds_toArray, List.set_cons_zero, List.set_cons_succ]
  refine take_at (i := 17) 4 (v := ?_) rfl rfl (by kernel_rfl) (by kernel_rfl) (by kernel_rfl) (fun _ _ _ h => h) (by rfl) ?_ hHeld ?_
  rotate_left
  · (intro w hSw; (try dsimp only at hSw); go_simp; try with_reducible rfl)
  simp only [Act.put, List.setIfInBounds_toArray, List.set_cons_zero, List.set_cons_succ]
  refine wpAnyH_done (by kernel_rfl) ?_ _
  refine NoPanic.normal ?_
  have hA4 := hA1 w2 hbb
  have HB2 : Hid (Below w.heap.size w w2) := hbb
  have hgl2 : g < w2.heap.size := Nat.lt_of_lt_of_le hgl HB2.out.size
  clear hA1 hA2 hA3 hbb HCA
  go_wp2_with fail
  refine Calls.mono (join_t (w := w2.alloc (.cells #[.slice a5 LL c5] tPg)) (g := rb) (n := N) (cap := cap) (vs := vs) (by rw [HN.out]; exact (HI.out.below (al HB2.out _)).row) HONE.out p p2 (N - 1) HP2.out (by have := HP1.out; have := HP2.out; omega) (by omega) w2.heap.size (.slice a5 LL c5) (heap_alloc_new w2 _) (fun e => by have h9 := (World.ownsRow.lt HI.out.row rb rfl).2; have := HB2.out.size; omega) rfl (by rw [HN.out]; exact HPL.out)) ?_
  rintro e w4 ⟨rfl, hown4, hgr4⟩
  have hd4 : w4.heap[g]? = some (.cells #[.int .i64 (S : Int), .slice (some ⟨rb, 0, none⟩) P.length cap] tIx (0, 0)) := (hgr4.block g (by have := (al HB2.out (.cells #[.slice a5 LL c5] tPg)).size; omega) (fun e => HI.out.ne e.symm)).trans (HI.out.below (al HB2.out _)).hd
  have hc4 : w4.cell? ⟨g, 1, none⟩ = some (.slice (some ⟨rb, 0, none⟩) N cap) := by rw [cell_of_row _ _ _ _ _ _ hd4, HN.out]; rfl
  have hf4 : w4.frozen? ⟨g, 1, none⟩ = false := by simp [World.frozen?, hd4]
  obtain ⟨M, hM⟩ : ∃ M, M = N - 1 := ⟨_, rfl⟩
  rw [← hM] at hown4 ⊢
  have HO4 : Hid _ := hown4
  have HG4 : Hid _ := hgr4
  have HM : Hid (M = N - 1) := hM
  clear hown4 hgr4 hd4 hM
  go_wp2
  refine bodyPost_end (results_none rfl _ _ _) rfl ?_
  have hln : (repL P p p2 [P[p] ++ P[p1]]).length = M := by rw [repL_len (by omega)]; have := HN.out; have := HP1.out; have := HP2.out; have := HM.out; simp; omega
  have h9 := (HI.out.below (al HB2.out (.cells #[.slice a5 LL c5] tPg))).repRow HG4.out p p2 (by omega) [P[p] ++ P[p1]] [.slice a5 LL c5] rfl (fun t q e => by
    have hk9 : ∀ {a : Option Addr} {ys : List Ent}, RdE w2 a ys → RdE w4 a ys := fun h8 => (h8.below (al (Below.refl _ _) _)).kept (Chg.of_grown (F := foot g (.slice (some ⟨rb, 0, none⟩) P.length cap)) HG4.out (fun b e => .inr e)) (fun b e => (HI.out.below (al HB2.out _)).noF b e)
    match t, e with
    | 0, e => cases e; exact ⟨a5, c5, by rw [← HLL.out]; rfl, by rw [← HLL.out]; exact HQ5.out.1, HQ5.out.2, hk9 HR5.out⟩
    | t + 1, e => simp at e) (by rw [hln]; exact HO4.out)
  exact ⟨rfl, ⟨_, _, h9.1, rfl⟩, (Chg.of_below (al HB2.out _)).trans h9.2 (fun i hi => .inl hi)⟩
end
end Go.Proofs.Ytibolgpaolnheaa.Str
