import Derived.Test.YtgdkiejlggiakabDBkOps
import Derived.Test.YtgdkiejlggiakabOpenSt
namespace Go.Proofs.Ytgdkiejlggiakab
set_option linter.unusedVariables false
set_option linter.unusedSimpArgs false
open Go.RowKit Go.Maps
theorem wpo_appI {w : World} {o : Oper} {a : Act} {K : Act → World → Prop} {Q : Exit → Act → World → Prop} (s x : Operand)
    (ho : o.op = .call { callee := .builtin .append, args := #[s, x], argTypes := #[38, 38] }) (B : Nat) (v : Value) (xs : List Int) (n : Nat) (y : Int) (g : Nat) (hn : n = xs.length)
    (hs : a.eval s = v) (hown : OwnI w B v xs) (hx : a.eval x = .slice (some ⟨g, 0, none⟩) 1 1) (hg : w.heap[g]? = some (.cells #[.int .i64 y] 3 (0, 0))) (hb : n ≤ 1099511627777) (hbase : B ≤ w.heap.size)
    (h : ∀ g' cap w', OwnI w' B (.slice (some ⟨g', 0, none⟩) (n + 1) cap) (xs ++ [y]) → w.grownBy w' v.ownBlock → (v.ownBlock = some g' ∨ g' = w.heap.size) → K (a.put o.dst (.slice (some ⟨g', 0, none⟩) (n + 1) cap)) w') : Oper.wp Try.prog o a w K Q := by
  subst hn
  obtain ⟨i0, hi, hz0, hz1, hz2⟩ := info_parts infoI
  refine wp_append_lies w s x 38 ho B 3 i0 (.int .i64 0) 1 8 Try.underlying38 hi hz0 hz1 hz2 rfl (by decide) v xs.length (xs.map (Value.int .i64)) hs hown ⟨g, 0, none⟩ 1 1 [.int .i64 y] hx rfl (World.news_of_block hg) (by intro u hu; simp at hu; subst hu; rfl) (by decide) (by simp only [maxLen]; omega) (by omega) hbase w.heap.size rfl ?_
  intro g' cap w' h1 h2 h3 _
  refine h g' cap w' ?_ h2 h3
  unfold OwnI
  rw [List.length_append, List.map_append]
  exact h1
/-- a sector's row grows -/
theorem BookAt.grow {w U w7 : World} {B kb gm cap p N : Nat} {M : Nat → List Int} {V : Nat → Value} {nx : Nat} (h : BookAt w B kb gm cap p N M V nx) (z : Nat) (hz : z < N) (hU : Below w.heap.size w U) {v : Value} {l : List Int} (hne : l ≠ []) (hg7 : U.grownBy w7 (V z).ownBlock) (how : OwnI w7 B v l) (hwh : v.ownBlock = (V z).ownBlock ∨ v.ownBlock = some U.heap.size) :
    (w7.cell? ⟨kb, 1, none⟩ = some (.slice (some ⟨gm, 0, none⟩) N cap) ∧ w7.cell? ⟨kb, 2, none⟩ = some (.int .i64 (nx : Int)) ∧ (∃ u, w7.cell? ⟨gm, z, none⟩ = some u) ∧ w7.frozen? ⟨gm, z, none⟩ = false) ∧ BookAt (w7.setCell ⟨gm, z, none⟩ v) B kb gm cap p N (upd M z l) (upd V z v) nx ∧ Chg (fun b => b = gm ∨ (V z).ownBlock = some b) w (w7.setCell ⟨gm, z, none⟩ v) := by
  obtain ⟨cur, h1, h2⟩ := h.hm
  have hgl := (Array.getElem?_eq_some_iff.1 h1).1
  have hcU : Chg (fun b => (V z).ownBlock = some b) U w7 := Chg.of_grown hg7 (fun b hb => hb)
  have hc7 : Chg (fun b => (V z).ownBlock = some b) w w7 := (Chg.of_below (F := fun b => (V z).ownBlock = some b) hU).trans hcU (fun b hb => .inl hb)
  have hnI : ∀ b cs T fr, w.heap[b]? = some (.cells cs T fr) → T ≠ 3 → ¬ (V z).ownBlock = some b := fun b cs T fr hb hT e => by
    obtain ⟨c, h3⟩ := (h.rows z hz).at_ e
    rw [hb] at h3
    simp only [Option.some.injEq, Obj.cells.injEq] at h3
    exact hT h3.2.1
  have hm7 : w7.heap[gm]? = some (.cells cur 38 (0, 0)) := (hc7.block gm hgl (hnI _ _ _ _ h1 (by decide))).trans h1
  have hk7 := (hc7.block kb (Array.getElem?_eq_some_iff.1 h.hk).1 (hnI _ _ _ _ h.hk (by decide))).trans h.hk
  have hc := set_chg w7 gm z v
  have hcw : Chg (fun b => b = gm ∨ (V z).ownBlock = some b) w (w7.setCell ⟨gm, z, none⟩ v) := (hc7.mono (G := fun b => b = gm ∨ (V z).ownBlock = some b) (fun b hb => .inr hb)).trans hc (fun b hb => .inl (.inl hb))
  refine ⟨⟨by rw [cell_of_row _ _ 1 _ _ _ hk7]; rfl, by rw [cell_of_row _ _ 2 _ _ _ hk7]; rfl, ⟨V z, by rw [cell_of_row _ _ z _ _ _ hm7, h2 z hz]⟩, frozen_of_row w7 gm z _ _ hm7⟩, h.setAny z hz v l hne hcw h1 (heap_setCell_same w7 gm z _ _ _ hm7) (how.chg hc (fun b hb e => ?_)) ?_, hcw⟩
  · subst e
    obtain ⟨c, h3⟩ := how.at_ hb
    rw [hm7] at h3
    simp only [Option.some.injEq, Obj.cells.injEq] at h3
    exact absurd h3.2.1 (by decide)
  · rcases hwh with h3 | h3
    · exact .inl h3
    · exact .inr ⟨_, h3, hU.size⟩
theorem BookAt.next {w : World} {B kb gm cap p N : Nat} {M : Nat → List Int} {V : Nat → Value} {nx : Nat} (h : BookAt w B kb gm cap p N M V nx) (ny : Nat) : BookAt (w.setCell ⟨kb, 2, none⟩ (.int .i64 (ny : Int))) B kb gm cap p N M V ny ∧ Chg (fun b => b = kb) w (w.setCell ⟨kb, 2, none⟩ (.int .i64 (ny : Int))) := by
  have hc := set_chg w kb 2 (.int .i64 (ny : Int))
  obtain ⟨cur, h1, h2⟩ := h.hm
  have hne : ∀ b cs T fr, w.heap[b]? = some (.cells cs T fr) → T ≠ 62 → ¬ b = kb := fun b cs T fr hb hT e => by
    subst e
    rw [h.hk] at hb
    simp only [Option.some.injEq, Obj.cells.injEq] at hb
    exact hT hb.2.1.symm
  refine ⟨⟨set3_2 h.hk _, ⟨cur, (hc.block gm (Array.getElem?_eq_some_iff.1 h1).1 (hne _ _ _ _ h1 (by decide))).trans h1, h2⟩, fun i hi => (h.rows i hi).chg hc (fun b hb => ?_), h.apart, h.ne, h.bk, h.bg⟩, hc⟩
  obtain ⟨c, h3⟩ := (h.rows i hi).at_ hb
  exact hne _ _ _ _ h3 (by decide)
def BKd (kb p nx : Nat) (u : World) : Prop := u.cell? ⟨kb, 0, none⟩ = some (.pointer (some ⟨p, 0, none⟩)) ∧ u.cell? ⟨kb, 2, none⟩ = some (.int .i64 (nx : Int))
def BKm (kb gm N cap nx : Nat) (u : World) : Prop := u.cell? ⟨kb, 1, none⟩ = some (.slice (some ⟨gm, 0, none⟩) N cap) ∧ u.cell? ⟨kb, 2, none⟩ = some (.int .i64 (nx : Int))
def BKc (kb p L : Nat) (ca : Option Addr) (lc cc : Nat) (u : World) : Prop := u.cell? ⟨kb, 0, none⟩ = some (.pointer (some ⟨p, 0, none⟩)) ∧ u.cell? ⟨L, 2, none⟩ = some (.slice ca lc cc)
def BKl (kb gm N cap gr z : Nat) (v : Int) (u : World) : Prop := u.cell? ⟨kb, 1, none⟩ = some (.slice (some ⟨gm, 0, none⟩) N cap) ∧ u.cell? ⟨gr, z, none⟩ = some (.int .i64 v)
set_option maxRecDepth 20000 in
set_option maxHeartbeats 1600000 in
theorem bstep_t {W w : World} {kb N : Nat} {d : Dst} {M : Nat → List Int} {nx c : Nat} (h : Bk W w kb N d M nx c) (s : Stp) (ca : Option Addr) (cc : Nat) (hI : Ints W ca s.cs) (hat : -9223372036854775808 ≤ s.at_ ∧ s.at_ ≤ 9223372036854775807) (hc : c < 1099511627776) (hnx : nx < 1099511627776) :
    Calls Try.prog 27 #[.pointer (some ⟨kb, 0, none⟩), .agg #[.int .i64 s.op, .int .i64 s.at_, .slice ca s.cs.length cc]] w fun e w' => e = .returned (.bool true) ∧ ∃ d' M' nx', Bk W w' kb N d' M' nx' (c + 1) ∧ nx' ≤ nx + 1 := by
  obtain ⟨q, t, cs⟩ := s
  simp only at hI hat ⊢
  obtain ⟨p, g, m, DV, gm, cap, V, hds, hft, hbk⟩ := h.ex
  have hrel := h.rel
  have hbel := h.bel
  have hN : N ≤ 65536 := by rw [← hrel.len]; exact DK.most hds
  have hN1 : 1 ≤ N := by rw [← hrel.len]; exact DK.one hds
  obtain ⟨L, hL⟩ : ∃ L : Nat, L = w.heap.size := ⟨_, rfl⟩
  obtain ⟨X, hX⟩ : ∃ X : World, X = w.alloc (.cells #[.int .i64 q, .int .i64 t, .slice ca cs.length cc] 48) := ⟨_, rfl⟩
  have hXr : X.heap[L]? = some (.cells #[.int .i64 q, .int .i64 t, .slice ca cs.length cc] 48 (0, 0)) := by rw [hX, hL]; exact heap_alloc_new w _
  have hXb : Below w.heap.size w X := by rw [hX]; exact al (Below.refl _ _) _
  have x0 : X.cell? ⟨L, 0, none⟩ = some (.int .i64 q) := by rw [cell_of_row _ _ 0 _ _ _ hXr]; rfl
  have x1 : X.cell? ⟨L, 1, none⟩ = some (.int .i64 t) := by rw [cell_of_row _ _ 1 _ _ _ hXr]; rfl
  have x2 : X.cell? ⟨L, 2, none⟩ = some (.slice ca cs.length cc) := by rw [cell_of_row _ _ 2 _ _ _ hXr]; rfl
  have HDS : Hid (DS X p g m d DV c) := DK.below hds hXb
  have HBK : Hid (BookAt X W.heap.size kb gm cap p N M V nx) := hbk.below hXb
  have HBEL : Hid (Below W.heap.size W X) := below_next hbel hXb
  have HREL : Hid _ := hrel
  have HFT : Hid _ := hft
  have HI : Hid _ := hI
  have HAT : Hid _ := hat
  have HLX : Hid (L < X.heap.size) := (Array.getElem?_eq_some_iff.1 hXr).1
  have HXR : Hid _ := hXr
  have c0 := BookAt.k0 HBK.out
  have c1 := BookAt.k1 HBK.out
  have c2 := BookAt.k2 HBK.out
  clear h hds hft hbk hrel hbel hXb hI hat hXr
  by_cases q0 : q = 0
  · subst q0
    obtain ⟨K0, hK0⟩ : ∃ K0 : Nat, K0 = N - 1 := ⟨_, rfl⟩
    obtain ⟨z, hz⟩ : ∃ z : Nat, z = spanS t 0 K0 := ⟨_, rfl⟩
    have HSP : Hid (∀ u, Calls Try.prog 21 #[.int .i64 t, .int .i64 0, .int .i64 (K0 : Int)] u fun e w' => e = .returned (.int .i64 (z : Int)) ∧ w' = u) := fun u => by rw [hz]; exact span_t t 0 K0 u HAT.out.1 HAT.out.2 (Nat.zero_le _) (by omega)
    have hzK := (spanS_in t 0 K0 (Nat.zero_le _)).2
    rw [← hz] at hzK
    have HZN : Hid (z < N) := by unfold Hid; omega
    have hKw : IntKind.i64.wrap ((N : Int) - 1) = (K0 : Int) := by rw [IntKind.wrap_i64]; omega
    clear hK0 hz hzK
    have hx1 : ∀ u, Below X.heap.size X u → u.cell? ⟨L, 1, none⟩ = some (.int .i64 t) := fun u hu => (hu.cell (p := ⟨L, 1, none⟩) HLX.out).trans x1
    have hxk : ∀ u, Below X.heap.size X u → u.cell? ⟨kb, 1, none⟩ = some (.slice (some ⟨gm, 0, none⟩) N cap) := fun u hu => BookAt.k1 (BookAt.below HBK.out hu)
    go_enter Try.func27, Try.ntmps27
    go_wp2_with fail
    rw [← hX, ← hL]
    clear hX hL
    go_wp2_with fail
    refine wp_region_noPanic ?_
    refine wp_region_held_drew (S := (fun u => Below X.heap.size X u)) (by kernel_rfl) (by first | exact (Below.refl _ _).drew | assumption) (fun hHeld => ?_)
    refine take_at (i := 0) 15 (v := ?_) rfl rfl (by kernel_rfl) (by kernel_rfl) (by kernel_rfl) (fun _ _ _ h => h) (by rfl) ?_ hHeld ?_
    rotate_left
    · (intro w hSw; (try dsimp only at hSw); go_simp; try with_reducible rfl)
    simp only [Act.put, List.setIfInBounds_toArray, List.set_cons_zero, List.set_cons_succ]
    refine take_at (i := 1) 16 (v := ?_) rfl rfl (by kernel_rfl) (by kernel_rfl) (by kernel_rfl) (fun _ _ _ h => h) (by rfl) ?_ hHeld ?_
    rotate_left
    · (intro w hSw; (try dsimp only at hSw); go_simp; try with_reducible rfl)
    simp only [Act.put, List.setIfInBounds_toArray, List.set_cons_zero, List.set_cons_succ]
    refine take_at (i := 2) 17 (v := ?_) rfl rfl (by kernel_rfl) (by kernel_rfl) (by kernel_rfl) (fun _ _ _ h => h) (by rfl) ?_ hHeld ?_
    rotate_left
    · (intro w hSw; (try dsimp only at hSw); go_simp; try with_reducible rfl)
    simp only [Act.put, List.setIfInBounds_toArray, List.set_cons_zero, List.set_cons_succ]
    refine take_at (i := 3) 18 (v := ?_) rfl rfl (by kernel_rfl) (by kernel_rfl) (by kernel_rfl) (fun _ _ _ h => h) (by rfl) ?_ hHeld ?_
    rotate_left
    · (intro w hSw; (try dsimp only at hSw); go_simp; try with_reducible rfl)
    simp only [Act.put, List.setIfInBounds_toArray, List.set_cons_zero, List.set_cons_succ]
    refine take_at (i := 4) 19 (v := ?_) rfl rfl (by kernel_rfl) (by kernel_rfl) (by kernel_rfl) (fun _ _ _ h => h) (by rfl) ?_ hHeld ?_
    rotate_left
    · (intro w hSw; (try dsimp only at hSw); go_simp; try with_reducible rfl)
    simp only [Act.put, List.setIfInBounds_toArray, List.set_cons_zero, List.set_cons_succ]
    refine take_at (i := 5) 20 (v := ?_) rfl rfl (by kernel_rfl) (by kernel_rfl) (by kernel_rfl) (fun _ _ _ h => h) (by rfl) ?_ hHeld ?_
    rotate_left
    · (intro w hSw; (try dsimp only at hSw); go_simp; try with_reducible rfl)
    simp only [Act.put, List.setIfInBounds_toArray, List.set_cons_zero, List.set_cons_succ]
    refine take_at (i := 6) 21 (v := ?_) rfl rfl (by kernel_rfl) (by kernel_rfl) (by kernel_rfl) (fun _ _ _ h => h) (by rfl) ?_ hHeld ?_
    rotate_left
    · (intro w hSw; (try dsimp only at hSw); go_simp; try with_reducible rfl)
    simp only [Act.put, List.setIfInBounds_toArray, List.set_cons_zero, List.set_cons_succ]
    refine take_at (i := 7) 22 (v := ?_) rfl rfl (by kernel_rfl) (by kernel_rfl) (by kernel_rfl) (fun _ _ _ h => h) (by rfl) ?_ hHeld ?_
    rotate_left
    · (intro w hSw; (try dsimp only at hSw); go_simp; try with_reducible rfl)
    simp only [Act.put, List.setIfInBounds_toArray, List.set_cons_zero, List.set_cons_succ]
    refine run_at (i := 8) rfl (by kernel_rfl) (by rfl) (fun K hK => ?_)
    simp only [List.getElem_toArray, List.getElem_cons_zero, List.getElem_cons_succ]
    go_simp
    (go_at_call 21; refine (HSP.out _).mono ?_; rintro e w1 ⟨rfl, hq1⟩; have hq1 := hq1.symm; subst hq1)
    go_wp2_with fail
    refine hK.out _ _ (by first | exact (Below.refl _ _).drew | assumption) ?_
    clear hK K
    intro hHeld2
    clear hHeld
    have hHeld := hHeld2
    clear hHeld2
    try simp only [Act.put, List.setIfInBounds_toArray, List.set_cons_zero, List.set_cons_succ]
    refine take_at (i := 9) 5 (v := ?_) rfl rfl (by kernel_rfl) (by kernel_rfl) (by kernel_rfl) (fun _ _ _ h => h) (by rfl) ?_ hHeld ?_
    rotate_left
    · (intro w hSw; (try dsimp only at hSw); go_simp; try with_reducible rfl)
    simp only [Act.put, List.setIfInBounds_toArray, List.set_cons_zero, List.set_cons_succ]
    refine wpAnyH_done (by kernel_rfl) ?_ _
    refine NoPanic.normal ?_
    obtain ⟨X2, hX2⟩ : ∃ X2 : World, X2 = X.drew := ⟨_, rfl⟩
    have hbX2 : Below X.heap.size X X2 := by rw [hX2]; exact (Below.refl _ _).drew
    have HDS2 : Hid (DS X2 p g m d DV c) := DK.below HDS.out hbX2
    have HBK2 : Hid (BookAt X2 W.heap.size kb gm cap p N M V nx) := BookAt.below HBK.out hbX2
    have HBEL2 : Hid (Below W.heap.size W X2) := below_next HBEL.out hbX2
    have hk0 : ∀ u, BKd kb p nx u → u.cell? ⟨kb, 0, none⟩ = some (.pointer (some ⟨p, 0, none⟩)) := fun u hu => hu.1
    have hk2 : ∀ u, BKd kb p nx u → u.cell? ⟨kb, 2, none⟩ = some (.int .i64 (nx : Int)) := fun u hu => hu.2
    have hB0 : BKd kb p nx X2.drew := ⟨BookAt.k0 (BookAt.below HBK2.out (Below.refl _ _).drew), BookAt.k2 (BookAt.below HBK2.out (Below.refl _ _).drew)⟩
    have HFI : Hid (∀ u, _) := fun u => fill_t nx u (by omega)
    have HWR : Hid (∀ u g1, Below X2.heap.size X2 u → u.heap[g1]? = some (.cells (bv (fillS nx)).toArray 5 (0, 0)) → Calls Try.prog 10 #[.pointer (some ⟨p, 0, none⟩), .int .i64 (z : Int), .slice (some ⟨g1, 0, none⟩) 128 128] u fun e w' => e = .returned (.int .i64 0) ∧ ∃ DV', DS w' p g m (d.write z (fillS nx)) DV' (c + 1) ∧ BookAt w' W.heap.size kb gm cap p N M V nx ∧ (∀ b, foot p g m DV' b → W.heap.size ≤ b) ∧ Below W.heap.size W w') := by
      intro u g1 hu hr9
      have hdu := DK.below HDS2.out hu
      have hbu := BookAt.below HBK2.out hu
      have h9 := write_all p g m z d DV c (some ⟨g1, 0, none⟩) 128 (fillS nx) u hdu hc (by rw [HREL.out.len]; exact HZN.out) (rd_row hr9) (fillS_len _) (fun y hy => by cases hy; exact fun e => hdu.not5 (.inl e) hr9)
      rw [HREL.out.fine.can] at h9
      refine h9.mono ?_
      rintro e w' ⟨rfl, DV', h10, h11⟩
      have h12 := Bk.disk (kb := kb) (N := N) (d' := d) (M := M) (M' := M) (nx := nx) (nx' := nx) (c' := c) (gm := gm) (cap := cap) (V := V) (below_next HBEL2.out hu) hdu HFT.out h11
      exact ⟨rfl, DV', h10, BookAt.disk hbu hdu h11, h12.1, h12.2⟩
    rw [← hX2]
    clear hX2
    go_wp2_with fail
    refine wp_region_noPanic ?_
    refine wp_region_held_drew (S := (fun u => BKd kb p nx u)) (by kernel_rfl) (by first | exact hB0 | assumption) (fun hHeld => ?_)
    refine take_at (i := 0) 24 (v := ?_) rfl rfl (by kernel_rfl) (by kernel_rfl) (by kernel_rfl) (fun _ _ _ h => h) (by rfl) ?_ hHeld ?_
    rotate_left
    · (intro w hSw; (try dsimp only at hSw); go_simp; try with_reducible rfl)
    simp only [Act.put, List.setIfInBounds_toArray, List.set_cons_zero, List.set_cons_succ]
    refine take_at (i := 1) 25 (v := ?_) rfl rfl (by kernel_rfl) (by kernel_rfl) (by kernel_rfl) (fun _ _ _ h => h) (by rfl) ?_ hHeld ?_
    rotate_left
    · (intro w hSw; (try dsimp only at hSw); go_simp; try with_reducible rfl)
    simp only [Act.put, List.setIfInBounds_toArray, List.set_cons_zero, List.set_cons_succ]
    refine take_at (i := 2) 26 (v := ?_) rfl rfl (by kernel_rfl) (by kernel_rfl) (by kernel_rfl) (fun _ _ _ h => h) (by rfl) ?_ hHeld ?_
    rotate_left
    · (intro w hSw; (try dsimp only at hSw); go_simp; try with_reducible rfl)
    simp only [Act.put, List.setIfInBounds_toArray, List.set_cons_zero, List.set_cons_succ]
    refine take_at (i := 3) 27 (v := ?_) rfl rfl (by kernel_rfl) (by kernel_rfl) (by kernel_rfl) (fun _ _ _ h => h) (by rfl) ?_ hHeld ?_
    rotate_left
    · (intro w hSw; (try dsimp only at hSw); go_simp; try with_reducible rfl)
    simp only [Act.put, List.setIfInBounds_toArray, List.set_cons_zero, List.set_cons_succ]
    refine take_at (i := 4) 28 (v := ?_) rfl rfl (by kernel_rfl) (by kernel_rfl) (by kernel_rfl) (fun _ _ _ h => h) (by rfl) ?_ hHeld ?_
    rotate_left
    · (intro w hSw; (try dsimp only at hSw); go_simp; try with_reducible rfl)
    simp only [Act.put, List.setIfInBounds_toArray, List.set_cons_zero, List.set_cons_succ]
    refine take_at (i := 5) 29 (v := ?_) rfl rfl (by kernel_rfl) (by kernel_rfl) (by kernel_rfl) (fun _ _ _ h => h) (by rfl) ?_ hHeld ?_
    rotate_left
    · (intro w hSw; (try dsimp only at hSw); go_simp; try with_reducible rfl)
    simp only [Act.put, List.setIfInBounds_toArray, List.set_cons_zero, List.set_cons_succ]
    refine take_at (i := 6) 30 (v := ?_) rfl rfl (by kernel_rfl) (by kernel_rfl) (by kernel_rfl) (fun _ _ _ h => h) (by rfl) ?_ hHeld ?_
    rotate_left
    · (intro w hSw; (try dsimp only at hSw); go_simp; try with_reducible rfl)
    simp only [Act.put, List.setIfInBounds_toArray, List.set_cons_zero, List.set_cons_succ]
    refine take_at (i := 7) 31 (v := ?_) rfl rfl (by kernel_rfl) (by kernel_rfl) (by kernel_rfl) (fun _ _ _ h => h) (by rfl) ?_ hHeld ?_
    rotate_left
    · (intro w hSw; (try dsimp only at hSw); go_simp; try with_reducible rfl)
    simp only [Act.put, List.setIfInBounds_toArray, List.set_cons_zero, List.set_cons_succ]
    refine take_at (i := 8) 32 (v := ?_) rfl rfl (by kernel_rfl) (by kernel_rfl) (by kernel_rfl) (fun _ _ _ h => h) (by rfl) ?_ hHeld ?_
    rotate_left
    · (intro w hSw; (try dsimp only at hSw); go_simp; try with_reducible rfl)
    simp only [Act.put, List.setIfInBounds_toArray, List.set_cons_zero, List.set_cons_succ]
    refine run_at (i := 9) rfl (by kernel_rfl) (by rfl) (fun K hK => ?_)
    simp only [List.getElem_toArray, List.getElem_cons_zero, List.getElem_cons_succ]
    go_simp
    first | (go_at_call 11; refine Calls.mono (HFI.out _) ?_; rintro e w3 ⟨g3, rfl, -, hr3, hb3⟩; have hb23 : Below X2.heap.size X2 w3 := below_next (B := X2) (Below.refl _ _).drew hb3; have hB3 : BKd kb p nx w3 := ⟨BookAt.k0 (BookAt.below HBK2.out hb23), BookAt.k2 (BookAt.below HBK2.out hb23)⟩; clear hb3) | (go_at_call 10; refine (HWR.out _ g3 hb23 hr3).mono ?_; rintro e w5 ⟨rfl, DV5, hds5, hbk5, hft5, hbel5⟩; have HDS5 : Hid _ := hds5; have HBK5 : Hid _ := hbk5; have HFT5 : Hid _ := hft5; have HBEL5 : Hid _ := hbel5; have hB5 : BKd kb p nx w5 := ⟨BookAt.k0 hbk5, BookAt.k2 hbk5⟩; clear hds5 hbk5 hft5 hbel5 hr3 hb23 hB3)
    go_wp2_with fail
    refine hK.out _ _ (by first | exact hB0 | assumption) ?_
    clear hK K
    intro hHeld2
    clear hHeld
    have hHeld := hHeld2
    clear hHeld2
    try simp only [Act.put, List.setIfInBounds_toArray, List.set_cons_zero, List.set_cons_succ]
    refine run_at (i := 10) rfl (by kernel_rfl) (by rfl) (fun K hK => ?_)
    simp only [List.getElem_toArray, List.getElem_cons_zero, List.getElem_cons_succ]
    go_simp
    first | (go_at_call 11; refine Calls.mono (HFI.out _) ?_; rintro e w3 ⟨g3, rfl, -, hr3, hb3⟩; have hb23 : Below X2.heap.size X2 w3 := below_next (B := X2) (Below.refl _ _).drew hb3; have hB3 : BKd kb p nx w3 := ⟨BookAt.k0 (BookAt.below HBK2.out hb23), BookAt.k2 (BookAt.below HBK2.out hb23)⟩; clear hb3) | (go_at_call 10; refine (HWR.out _ g3 hb23 hr3).mono ?_; rintro e w5 ⟨rfl, DV5, hds5, hbk5, hft5, hbel5⟩; have HDS5 : Hid _ := hds5; have HBK5 : Hid _ := hbk5; have HFT5 : Hid _ := hft5; have HBEL5 : Hid _ := hbel5; have hB5 : BKd kb p nx w5 := ⟨BookAt.k0 hbk5, BookAt.k2 hbk5⟩; clear hds5 hbk5 hft5 hbel5 hr3 hb23 hB3)
    go_wp2_with fail
    refine hK.out _ _ (by first | exact hB0 | assumption) ?_
    clear hK K
    intro hHeld2
    clear hHeld
    have hHeld := hHeld2
    clear hHeld2
    try simp only [Act.put, List.setIfInBounds_toArray, List.set_cons_zero, List.set_cons_succ]
    refine take_at (i := 11) 6 (v := ?_) rfl rfl (by kernel_rfl) (by kernel_rfl) (by kernel_rfl) (fun _ _ _ h => h) (by rfl) ?_ hHeld ?_
    rotate_left
    · (intro w hSw; (try dsimp only at hSw); go_simp; try with_reducible rfl)
    simp only [Act.put, List.setIfInBounds_toArray, List.set_cons_zero, List.set_cons_succ]
    refine wpAnyH_done (by kernel_rfl) ?_ _
    refine NoPanic.normal ?_
    clear hB0 hB5 hk0 hk2 HDS2 HBK2 HBEL2 HWR HFI hbX2
    have hm1 : ∀ u, BKm kb gm N cap nx u → u.cell? ⟨kb, 1, none⟩ = some (.slice (some ⟨gm, 0, none⟩) N cap) := fun u hu => hu.1
    have hm2 : ∀ u, BKm kb gm N cap nx u → u.cell? ⟨kb, 2, none⟩ = some (.int .i64 (nx : Int)) := fun u hu => hu.2
    have hM0 : BKm kb gm N cap nx w5.drew := ⟨BookAt.k1 (BookAt.below HBK5.out (Below.refl _ _).drew), BookAt.k2 (BookAt.below HBK5.out (Below.refl _ _).drew)⟩
    have hM1 : ∀ o, BKm kb gm N cap nx (w5.alloc o).drew := fun o => ⟨BookAt.k1 (BookAt.below HBK5.out (al (Below.refl _ _) o).drew), BookAt.k2 (BookAt.below HBK5.out (al (Below.refl _ _) o).drew)⟩
    have hM2 : ∀ o, BKm kb gm N cap nx (w5.alloc o) := fun o => ⟨BookAt.k1 (BookAt.below HBK5.out (al (Below.refl _ _) o)), BookAt.k2 (BookAt.below HBK5.out (al (Below.refl _ _) o))⟩
    have cvz := BookAt.cell HBK5.out z HZN.out
    obtain ⟨gz, cz, hvz, -, -, -⟩ := BookAt.row HBK5.out z HZN.out
    have hOWz := BookAt.rows HBK5.out z HZN.out
    obtain ⟨lz, hlz⟩ : ∃ l : Nat, l = (M z).length := ⟨_, rfl⟩
    have HLZ : Hid (lz ≤ 1099511627777) := by
      have h8 := (HREL.out.may z HZN.out).clen
      have h9 := CacheAt.few (DK.cache HDS5.out) z
      have h10 := DK.few HDS.out
      have h11 : ((d.write z (fillS nx)).C z).length = (d.C z).length + 1 := by unfold Dst.write; rw [HREL.out.fine.can]; simp [upd_same]
      unfold Hid
      omega
    have HGR : Hid (∀ U w7 v' , Below w5.heap.size w5 U → U.grownBy w7 (V z).ownBlock → OwnI w7 W.heap.size v' (M z ++ [(nx : Int)]) → (v'.ownBlock = (V z).ownBlock ∨ v'.ownBlock = some U.heap.size) → _) := fun U w7 v' hU hg how hwh => BookAt.grow (U := U) (w7 := w7) (v := v') HBK5.out z HZN.out hU (by simp) hg how hwh
    rw [hvz] at cvz hOWz HGR
    have hcvA : ∀ o : Obj, (w5.alloc o).cell? ⟨gm, z, none⟩ = some (.slice (some ⟨gz, 0, none⟩) (M z).length cz) := fun o => ((al (Below.refl _ _) o).cell (p := ⟨gm, z, none⟩) (World.block_lt_of_cell? w5 _ cvz)).trans cvz
    rw [← hlz] at cvz hOWz HGR hcvA
    have hgmw : gm < w5.heap.size := World.block_lt_of_cell? w5 _ cvz
    have HOWz : Hid _ := hOWz
    have hz0 : (0 : Int) ≤ (z : Int) := by omega
    have hzN : (z : Int) < (N : Int) := by have := HZN.out; omega
    have hWb : W.heap.size ≤ w5.heap.size := Below.size HBEL5.out
    have HLE : Hid _ := hlz
    clear hOWz hlz hvz
    go_wp2_with fail
    refine wp_region_noPanic ?_
    refine wp_region_held_drew (S := (fun u => BKm kb gm N cap nx u)) (by kernel_rfl) (by first | exact hM0 | exact hM1 _ | exact hM2 _ | assumption) (fun hHeld => ?_)
    refine take_at (i := 0) 35 (v := ?_) rfl rfl (by kernel_rfl) (by kernel_rfl) (by kernel_rfl) (fun _ _ _ h => h) (by rfl) ?_ hHeld ?_
    rotate_left
    · (intro w hSw; (try dsimp only at hSw); go_simp; try with_reducible rfl)
    simp only [Act.put, List.setIfInBounds_toArray, List.set_cons_zero, List.set_cons_succ]
    refine take_at (i := 1) 36 (v := ?_) rfl rfl (by kernel_rfl) (by kernel_rfl) (by kernel_rfl) (fun _ _ _ h => h) (by rfl) ?_ hHeld ?_
    rotate_left
    · (intro w hSw; (try dsimp only at hSw); go_simp; try with_reducible rfl)
    simp only [Act.put, List.setIfInBounds_toArray, List.set_cons_zero, List.set_cons_succ]
    refine take_at (i := 2) 37 (v := ?_) rfl rfl (by kernel_rfl) (by kernel_rfl) (by kernel_rfl) (fun _ _ _ h => h) (by rfl) ?_ hHeld ?_
    rotate_left
    · (intro w hSw; (try dsimp only at hSw); go_simp; try with_reducible rfl)
    simp only [Act.put, List.setIfInBounds_toArray, List.set_cons_zero, List.set_cons_succ]
    refine take_at (i := 3) 38 (v := ?_) rfl rfl (by kernel_rfl) (by kernel_rfl) (by kernel_rfl) (fun _ _ _ h => h) (by rfl) ?_ hHeld ?_
    rotate_left
    · (intro w hSw; (try dsimp only at hSw); go_simp; try with_reducible rfl)
    simp only [Act.put, List.setIfInBounds_toArray, List.set_cons_zero, List.set_cons_succ]
    refine take_at (i := 4) 39 (v := ?_) rfl rfl (by kernel_rfl) (by kernel_rfl) (by kernel_rfl) (fun _ _ _ h => h) (by rfl) ?_ hHeld ?_
    rotate_left
    · (intro w hSw; (try dsimp only at hSw); go_simp; try with_reducible rfl)
    simp only [Act.put, List.setIfInBounds_toArray, List.set_cons_zero, List.set_cons_succ]
    refine take_at (i := 5) 40 (v := ?_) rfl rfl (by kernel_rfl) (by kernel_rfl) (by kernel_rfl) (fun _ _ _ h => h) (by rfl) ?_ hHeld ?_
    rotate_left
    · (intro w hSw; (try dsimp only at hSw); go_simp; try with_reducible rfl)
    simp only [Act.put, List.setIfInBounds_toArray, List.set_cons_zero, List.set_cons_succ]
    refine take_at (i := 6) 41 (v := ?_) rfl rfl (by kernel_rfl) (by kernel_rfl) (by kernel_rfl) (fun _ _ _ h => h) (by rfl) ?_ hHeld ?_
    rotate_left
    · (intro w hSw; (try dsimp only at hSw); go_simp; try with_reducible rfl)
    simp only [Act.put, List.setIfInBounds_toArray, List.set_cons_zero, List.set_cons_succ]
    refine take_at (i := 7) 42 (v := ?_) rfl rfl (by kernel_rfl) (by kernel_rfl) (by kernel_rfl) (fun _ _ _ h => h) (by rfl) ?_ hHeld ?_
    rotate_left
    · (intro w hSw; (try dsimp only at hSw); go_simp; try with_reducible rfl)
    simp only [Act.put, List.setIfInBounds_toArray, List.set_cons_zero, List.set_cons_succ]
    refine take_at (i := 8) 43 (v := ?_) rfl rfl (by kernel_rfl) (by kernel_rfl) (by kernel_rfl) (fun _ _ _ h => h) (by rfl) ?_ hHeld ?_
    rotate_left
    · (intro w hSw; (try dsimp only at hSw); go_simp; try with_reducible rfl)
    simp only [Act.put, List.setIfInBounds_toArray, List.set_cons_zero, List.set_cons_succ]
    refine take_at (i := 9) 44 (v := ?_) rfl rfl (by kernel_rfl) (by kernel_rfl) (by kernel_rfl) (fun _ _ _ h => h) (by rfl) ?_ hHeld ?_
    rotate_left
    · (intro w hSw; (try dsimp only at hSw); go_simp; try with_reducible rfl)
    simp only [Act.put, List.setIfInBounds_toArray, List.set_cons_zero, List.set_cons_succ]
    refine take_at (i := 10) 45 (v := ?_) rfl rfl (by kernel_rfl) (by kernel_rfl) (by kernel_rfl) (fun _ _ _ h => h) (by rfl) ?_ hHeld ?_
    rotate_left
    · (intro w hSw; (try dsimp only at hSw); go_simp; try with_reducible rfl)
    simp only [Act.put, List.setIfInBounds_toArray, List.set_cons_zero, List.set_cons_succ]
    refine take_at (i := 12) 47 (v := ?_) rfl rfl (by kernel_rfl) (by kernel_rfl) (by kernel_rfl) (fun _ _ _ h => h) (by rfl) ?_ hHeld ?_
    rotate_left
    · (intro w hSw; (try dsimp only at hSw); go_simp; try with_reducible rfl)
    simp only [Act.put, List.setIfInBounds_toArray, List.set_cons_zero, List.set_cons_succ]
    refine take_at (i := 13) 48 (v := ?_) rfl rfl (by kernel_rfl) (by kernel_rfl) (by kernel_rfl) (fun _ _ _ h => h) (by rfl) ?_ hHeld ?_
    rotate_left
    · (intro w hSw; (try dsimp only at hSw); go_simp; try with_reducible rfl)
    simp only [Act.put, List.setIfInBounds_toArray, List.set_cons_zero, List.set_cons_succ]
    refine take_at (i := 14) 49 (v := ?_) rfl rfl (by kernel_rfl) (by kernel_rfl) (by kernel_rfl) (fun _ _ _ h => h) (by rfl) ?_ hHeld ?_
    rotate_left
    · (intro w hSw; (try dsimp only at hSw); go_simp; try with_reducible rfl)
    simp only [Act.put, List.setIfInBounds_toArray, List.set_cons_zero, List.set_cons_succ]
    refine take_at (i := 15) 50 (v := ?_) rfl rfl (by kernel_rfl) (by kernel_rfl) (by kernel_rfl) (fun _ _ _ h => h) (by rfl) ?_ hHeld ?_
    rotate_left
    · (intro w hSw; (try dsimp only at hSw); go_simp; try with_reducible rfl)
    simp only [Act.put, List.setIfInBounds_toArray, List.set_cons_zero, List.set_cons_succ]
    refine wpAnyH_ready (rs := [11, 16]) (by kernel_rfl) (by simp) ?_
    refine AllReadyH.cons (o := _) rfl (fun K hK => ?_) ?_
    focus
      rw [if_pos (by rfl)]
      refine val_wp 46 (v := ?_) rfl ?_ ?_
      rotate_left
      · (go_simp; try with_reducible rfl)
      refine hK.out _ _ (by first | exact hM0 | exact hM1 _ | exact hM2 _ | assumption) ?_
      clear hK K
      intro hHeld2
      clear hHeld
      have hHeld := hHeld2
      clear hHeld2
      simp only [Act.put, List.setIfInBounds_toArray, List.set_cons_zero, List.set_cons_succ]
      refine run_at (i := 16) rfl (by kernel_rfl) (by rfl) (fun K hK => ?_)
      simp only [List.getElem_toArray, List.getElem_cons_zero, List.getElem_cons_succ]
      go_simp
      go_wp2_with fail
      refine hK.out _ _ (by first | exact hM0 | exact hM1 _ | exact hM2 _ | assumption) ?_
      clear hK K
      intro hHeld2
      clear hHeld
      have hHeld := hHeld2
      clear hHeld2
      try simp only [Act.put, List.setIfInBounds_toArray, List.set_cons_zero, List.set_cons_succ]
      refine run_at (i := 17) rfl (by kernel_rfl) (by rfl) (fun K hK => ?_)
      simp only [List.getElem_toArray, List.getElem_cons_zero, List.getElem_cons_succ]
      (refine wpo_appI _ _ rfl W.heap.size (.slice (some ⟨gz, 0, none⟩) lz cz) (M z) lz (nx : Int) w5.heap.size HLE.out rfl (OwnI.below HOWz.out (by first | exact (al (Below.refl _ _) _).drew | exact al (Below.refl _ _) _)) rfl (heap_alloc_new w5 _) HLZ.out (by first | (simp; omega) | omega) ?_; intro g7 cap7 w7 how7 hg7 hwh7; obtain ⟨⟨e1, e1b, e2, e3⟩, e4, e5⟩ := HGR.out _ w7 _ (by first | exact (al (Below.refl _ _) _).drew | exact al (Below.refl _ _) _) hg7 how7 (by rcases hwh7 with e | e; (· exact .inl e.symm); (· exact .inr (by rw [e]; rfl))); obtain ⟨u7, e2⟩ := e2; have hM7 : BKm kb gm N cap nx w7 := ⟨e1, e1b⟩; have hM8 : BKm kb gm N cap nx (w7.setCell ⟨gm, z, none⟩ (.slice (some ⟨g7, 0, none⟩) (lz + 1) cap7)) := ⟨BookAt.k1 e4, BookAt.k2 e4⟩; have HBK8 : Hid _ := e4; have HCG8 : Hid _ := e5; clear how7 hg7 hwh7 e1 e1b e4 e5)
      refine hK.out _ _ (by first | exact hM0 | exact hM1 _ | exact hM2 _ | assumption) ?_
      clear hK K
      intro hHeld2
      clear hHeld
      have hHeld := hHeld2
      clear hHeld2
      try simp only [Act.put, List.setIfInBounds_toArray, List.set_cons_zero, List.set_cons_succ]
      refine take_at (i := 18) 53 (v := ?_) rfl rfl (by kernel_rfl) (by kernel_rfl) (by kernel_rfl) (fun _ _ _ h => h) (by rfl) ?_ hHeld ?_
      rotate_left
      · (intro w hSw; (try dsimp only at hSw); go_simp; try with_reducible rfl)
      simp only [Act.put, List.setIfInBounds_toArray, List.set_cons_zero, List.set_cons_succ]
      refine run_at (i := 19) rfl (by kernel_rfl) (by rfl) (fun K hK => ?_)
      simp only [List.getElem_toArray, List.getElem_cons_zero, List.getElem_cons_succ]
      go_simp
      go_wp2_with fail
      refine hK.out _ _ (by first | exact hM0 | exact hM1 _ | exact hM2 _ | assumption) ?_
      clear hK K
      intro hHeld2
      clear hHeld
      have hHeld := hHeld2
      clear hHeld2
      try simp only [Act.put, List.setIfInBounds_toArray, List.set_cons_zero, List.set_cons_succ]
      refine wpAnyH_done (by kernel_rfl) ?_ _
      refine NoPanic.normal ?_
    rotate_left 1
    refine AllReadyH.cons (o := _) rfl (fun K hK => ?_) AllReadyH.nil
    focus
      rw [if_pos (by rfl)]
      simp only [List.getElem_toArray, List.getElem_cons_zero, List.getElem_cons_succ]
      go_simp
      go_wp2_with fail
      refine hK.out _ _ (by first | exact hM0 | exact hM1 _ | exact hM2 _ | assumption) ?_
      clear hK K
      intro hHeld2
      clear hHeld
      have hHeld := hHeld2
      clear hHeld2
      try simp only [Act.put, List.setIfInBounds_toArray, List.set_cons_zero, List.set_cons_succ]
      refine val_at (i := 11) 46 (v := ?_) rfl rfl (by kernel_rfl) (by rfl) ?_ ?_ ?_
      rotate_left
      · (go_simp; try with_reducible rfl)
      · (first | exact hM0 | exact hM1 _ | exact hM2 _ | assumption)
      intro hHeld2
      clear hHeld
      have hHeld := hHeld2
      clear hHeld2
      simp only [Act.put, List.setIfInBounds_toArray, List.set_cons_zero, List.set_cons_succ]
      refine run_at (i := 17) rfl (by kernel_rfl) (by rfl) (fun K hK => ?_)
      simp only [List.getElem_toArray, List.getElem_cons_zero, List.getElem_cons_succ]
      (refine wpo_appI _ _ rfl W.heap.size (.slice (some ⟨gz, 0, none⟩) lz cz) (M z) lz (nx : Int) w5.heap.size HLE.out rfl (OwnI.below HOWz.out (by first | exact (al (Below.refl _ _) _).drew | exact al (Below.refl _ _) _)) rfl (heap_alloc_new w5 _) HLZ.out (by first | (simp; omega) | omega) ?_; intro g7 cap7 w7 how7 hg7 hwh7; obtain ⟨⟨e1, e1b, e2, e3⟩, e4, e5⟩ := HGR.out _ w7 _ (by first | exact (al (Below.refl _ _) _).drew | exact al (Below.refl _ _) _) hg7 how7 (by rcases hwh7 with e | e; (· exact .inl e.symm); (· exact .inr (by rw [e]; rfl))); obtain ⟨u7, e2⟩ := e2; have hM7 : BKm kb gm N cap nx w7 := ⟨e1, e1b⟩; have hM8 : BKm kb gm N cap nx (w7.setCell ⟨gm, z, none⟩ (.slice (some ⟨g7, 0, none⟩) (lz + 1) cap7)) := ⟨BookAt.k1 e4, BookAt.k2 e4⟩; have HBK8 : Hid _ := e4; have HCG8 : Hid _ := e5; clear how7 hg7 hwh7 e1 e1b e4 e5)
      refine hK.out _ _ (by first | exact hM0 | exact hM1 _ | exact hM2 _ | assumption) ?_
      clear hK K
      intro hHeld2
      clear hHeld
      have hHeld := hHeld2
      clear hHeld2
      try simp only [Act.put, List.setIfInBounds_toArray, List.set_cons_zero, List.set_cons_succ]
      refine take_at (i := 18) 53 (v := ?_) rfl rfl (by kernel_rfl) (by kernel_rfl) (by kernel_rfl) (fun _ _ _ h => h) (by rfl) ?_ hHeld ?_
      rotate_left
      · (intro w hSw; (try dsimp only at hSw); go_simp; try with_reducible rfl)
      simp only [Act.put, List.setIfInBounds_toArray, List.set_cons_zero, List.set_cons_succ]
      refine run_at (i := 19) rfl (by kernel_rfl) (by rfl) (fun K hK => ?_)
      simp only [List.getElem_toArray, List.getElem_cons_zero, List.getElem_cons_succ]
      go_simp
      go_wp2_with fail
      refine hK.out _ _ (by first | exact hM0 | exact hM1 _ | exact hM2 _ | assumption) ?_
      clear hK K
      intro hHeld2
      clear hHeld
      have hHeld := hHeld2
      clear hHeld2
      try simp only [Act.put, List.setIfInBounds_toArray, List.set_cons_zero, List.set_cons_succ]
      refine wpAnyH_done (by kernel_rfl) ?_ _
      refine NoPanic.normal ?_
    all_goals
      obtain ⟨w8, hw8⟩ : ∃ w8 : World, w8 = w7.setCell ⟨gm, z, none⟩ (.slice (some ⟨g7, 0, none⟩) (lz + 1) cap7) := ⟨_, rfl⟩
      rw [← hw8] at HBK8 HCG8 ⊢
      clear hw8 hM0 hM1 hM2 hM7 hM8 hm1 hm2
      have hk8 := BookAt.k2 HBK8.out
      have hf8 := frozen_of_row w8 kb 2 _ _ (BookAt.hk HBK8.out)
      obtain ⟨ny, hny⟩ : ∃ ny : Nat, ny = nx + 1 := ⟨_, rfl⟩
      have hnw : IntKind.i64.wrap ((nx : Int) + 1) = (ny : Int) := by rw [IntKind.wrap_i64]; omega
      have hnv : IntKind.i64.wrap ((ny : Int) - 1) = (nx : Int) := by rw [IntKind.wrap_i64]; omega
      have HFIN : Hid (Bk W (w8.setCell ⟨kb, 2, none⟩ (.int .i64 (ny : Int))) kb N (d.write z (fillS nx)) (upd M z (M z ++ [(nx : Int)])) ny (c + 1)) := by
        obtain ⟨b1, b2⟩ := BookAt.next HBK8.out ny
        have d8 : DS w8 p g m (d.write z (fillS nx)) DV5 (c + 1) := DK.kept HDS5.out HCG8.out (fun b hb hf => by
          rcases hf with e | e
          · subst e
            obtain ⟨cur, h9, -⟩ := BookAt.hm HBK5.out
            exact DK.notT HDS5.out hb farSl h9
          · obtain ⟨cur, h9⟩ := OwnI.at_ HOWz.out e
            exact DK.notT HDS5.out hb farIn h9)
        have d9 := DK.kept d8 b2 (fun b hb e => by subst e; exact DK.notT d8 hb farBk (BookAt.hk HBK8.out))
        refine ⟨⟨p, g, m, DV5, gm, cap, _, d9, HFT5.out, b1⟩, by rw [hny]; exact HREL.out.write z, ?_⟩
        refine Below.trans (Below.trans HBEL5.out (Chg.below HCG8.out (fun b hb => ?_) hWb)) (b2.below (fun b hb => by rw [hb]; exact BookAt.bk HBK5.out) (Nat.le_trans hWb (Chg.size HCG8.out)))
        rcases hb with e | e
        · rw [e]; exact BookAt.bg HBK5.out
        · exact (World.ownsRow.lt HOWz.out b e).1
      have HRD : Hid _ := reads_t HFIN.out z HZN.out (nx : Int) (by rw [BookRel.reads (Bk.rel HFIN.out) z HZN.out, upd_same]; congr 1; simp [lastI]) ⟨by omega, by omega⟩
      have HNY : Hid _ := hny
      clear hny e2 e3 HBK8 HCG8 HBK5 HDS5 HFT5 HBEL5 HGR HOWz HLE
      go_wp2_with fail
      refine Calls.mono HRD.out ?_
      rintro e w10 ⟨rfl, hb10⟩
      go_wp2
      go_ret
      exact ⟨rfl, _, _, _, Bk.below HFIN.out hb10, by rw [HNY.out]; omega⟩
  · by_cases q1 : q = 1
    · subst q1
      obtain ⟨K0, hK0⟩ : ∃ K0 : Nat, K0 = N - 1 := ⟨_, rfl⟩
      obtain ⟨z, hz⟩ : ∃ z : Nat, z = spanS t 0 K0 := ⟨_, rfl⟩
      have HSP : Hid (∀ u, Calls Try.prog 21 #[.int .i64 t, .int .i64 0, .int .i64 (K0 : Int)] u fun e w' => e = .returned (.int .i64 (z : Int)) ∧ w' = u) := fun u => by rw [hz]; exact span_t t 0 K0 u HAT.out.1 HAT.out.2 (Nat.zero_le _) (by omega)
      have hzK := (spanS_in t 0 K0 (Nat.zero_le _)).2
      rw [← hz] at hzK
      have HZN : Hid (z < N) := by unfold Hid; omega
      have hKw : IntKind.i64.wrap ((N : Int) - 1) = (K0 : Int) := by rw [IntKind.wrap_i64]; omega
      clear hK0 hz hzK
      have hx1 : ∀ u, Below X.heap.size X u → u.cell? ⟨L, 1, none⟩ = some (.int .i64 t) := fun u hu => (hu.cell (p := ⟨L, 1, none⟩) HLX.out).trans x1
      have hxk : ∀ u, Below X.heap.size X u → u.cell? ⟨kb, 1, none⟩ = some (.slice (some ⟨gm, 0, none⟩) N cap) := fun u hu => BookAt.k1 (BookAt.below HBK.out hu)
      go_enter Try.func27, Try.ntmps27
      go_wp2_with fail
      rw [← hX, ← hL]
      clear hX hL
      go_wp2_with fail
      refine wp_region_noPanic ?_
      refine wp_region_held_drew (S := (fun u => Below X.heap.size X u)) (by kernel_rfl) (by first | exact (Below.refl _ _).drew | assumption) (fun hHeld => ?_)
      refine take_at (i := 0) 15 (v := ?_) rfl rfl (by kernel_rfl) (by kernel_rfl) (by kernel_rfl) (fun _ _ _ h => h) (by rfl) ?_ hHeld ?_
      rotate_left
      · (intro w hSw; (try dsimp only at hSw); go_simp; try with_reducible rfl)
      simp only [Act.put, List.setIfInBounds_toArray, List.set_cons_zero, List.set_cons_succ]
      refine take_at (i := 1) 16 (v := ?_) rfl rfl (by kernel_rfl) (by kernel_rfl) (by kernel_rfl) (fun _ _ _ h => h) (by rfl) ?_ hHeld ?_
      rotate_left
      · (intro w hSw; (try dsimp only at hSw); go_simp; try with_reducible rfl)
      simp only [Act.put, List.setIfInBounds_toArray, List.set_cons_zero, List.set_cons_succ]
      refine take_at (i := 2) 17 (v := ?_) rfl rfl (by kernel_rfl) (by kernel_rfl) (by kernel_rfl) (fun _ _ _ h => h) (by rfl) ?_ hHeld ?_
      rotate_left
      · (intro w hSw; (try dsimp only at hSw); go_simp; try with_reducible rfl)
      simp only [Act.put, List.setIfInBounds_toArray, List.set_cons_zero, List.set_cons_succ]
      refine take_at (i := 3) 18 (v := ?_) rfl rfl (by kernel_rfl) (by kernel_rfl) (by kernel_rfl) (fun _ _ _ h => h) (by rfl) ?_ hHeld ?_
      rotate_left
      · (intro w hSw; (try dsimp only at hSw); go_simp; try with_reducible rfl)
      simp only [Act.put, List.setIfInBounds_toArray, List.set_cons_zero, List.set_cons_succ]
      refine take_at (i := 4) 19 (v := ?_) rfl rfl (by kernel_rfl) (by kernel_rfl) (by kernel_rfl) (fun _ _ _ h => h) (by rfl) ?_ hHeld ?_
      rotate_left
      · (intro w hSw; (try dsimp only at hSw); go_simp; try with_reducible rfl)
      simp only [Act.put, List.setIfInBounds_toArray, List.set_cons_zero, List.set_cons_succ]
      refine take_at (i := 5) 20 (v := ?_) rfl rfl (by kernel_rfl) (by kernel_rfl) (by kernel_rfl) (fun _ _ _ h => h) (by rfl) ?_ hHeld ?_
      rotate_left
      · (intro w hSw; (try dsimp only at hSw); go_simp; try with_reducible rfl)
      simp only [Act.put, List.setIfInBounds_toArray, List.set_cons_zero, List.set_cons_succ]
      refine take_at (i := 6) 21 (v := ?_) rfl rfl (by kernel_rfl) (by kernel_rfl) (by kernel_rfl) (fun _ _ _ h => h) (by rfl) ?_ hHeld ?_
      rotate_left
      · (intro w hSw; (try dsimp only at hSw); go_simp; try with_reducible rfl)
      simp only [Act.put, List.setIfInBounds_toArray, List.set_cons_zero, List.set_cons_succ]
      refine take_at (i := 7) 22 (v := ?_) rfl rfl (by kernel_rfl) (by kernel_rfl) (by kernel_rfl) (fun _ _ _ h => h) (by rfl) ?_ hHeld ?_
      rotate_left
      · (intro w hSw; (try dsimp only at hSw); go_simp; try with_reducible rfl)
      simp only [Act.put, List.setIfInBounds_toArray, List.set_cons_zero, List.set_cons_succ]
      refine run_at (i := 8) rfl (by kernel_rfl) (by rfl) (fun K hK => ?_)
      simp only [List.getElem_toArray, List.getElem_cons_zero, List.getElem_cons_succ]
      go_simp
      (go_at_call 21; refine (HSP.out _).mono ?_; rintro e w1 ⟨rfl, hq1⟩; have hq1 := hq1.symm; subst hq1)
      go_wp2_with fail
      refine hK.out _ _ (by first | exact (Below.refl _ _).drew | assumption) ?_
      clear hK K
      intro hHeld2
      clear hHeld
      have hHeld := hHeld2
      clear hHeld2
      try simp only [Act.put, List.setIfInBounds_toArray, List.set_cons_zero, List.set_cons_succ]
      refine take_at (i := 9) 5 (v := ?_) rfl rfl (by kernel_rfl) (by kernel_rfl) (by kernel_rfl) (fun _ _ _ h => h) (by rfl) ?_ hHeld ?_
      rotate_left
      · (intro w hSw; (try dsimp only at hSw); go_simp; try with_reducible rfl)
      simp only [Act.put, List.setIfInBounds_toArray, List.set_cons_zero, List.set_cons_succ]
      refine wpAnyH_done (by kernel_rfl) ?_ _
      refine NoPanic.normal ?_
      obtain ⟨X2, hX2⟩ : ∃ X2 : World, X2 = X.drew := ⟨_, rfl⟩
      have hbX2 : Below X.heap.size X X2 := by rw [hX2]; exact (Below.refl _ _).drew
      have HDS2 : Hid (DS X2 p g m d DV c) := DK.below HDS.out hbX2
      have HBK2 : Hid (BookAt X2 W.heap.size kb gm cap p N M V nx) := BookAt.below HBK.out hbX2
      have HBEL2 : Hid (Below W.heap.size W X2) := below_next HBEL.out hbX2
      have hk0 : ∀ u, BKd kb p nx u → u.cell? ⟨kb, 0, none⟩ = some (.pointer (some ⟨p, 0, none⟩)) := fun u hu => hu.1
      have hk2 : ∀ u, BKd kb p nx u → u.cell? ⟨kb, 2, none⟩ = some (.int .i64 (nx : Int)) := fun u hu => hu.2
      have hB0 : BKd kb p nx X2.drew := ⟨BookAt.k0 (BookAt.below HBK2.out (Below.refl _ _).drew), BookAt.k2 (BookAt.below HBK2.out (Below.refl _ _).drew)⟩
      have HFI : Hid (∀ u, _) := fun u => fill_t nx u (by omega)
      have HWR : Hid (∀ u g1, Below X2.heap.size X2 u → u.heap[g1]? = some (.cells (bv (fillS nx)).toArray 5 (0, 0)) → Calls Try.prog 10 #[.pointer (some ⟨p, 0, none⟩), .int .i64 (z : Int), .slice (some ⟨g1, 0, none⟩) 128 128] u fun e w' => e = .returned (.int .i64 0) ∧ ∃ DV', DS w' p g m (d.write z (fillS nx)) DV' (c + 1) ∧ BookAt w' W.heap.size kb gm cap p N M V nx ∧ (∀ b, foot p g m DV' b → W.heap.size ≤ b) ∧ Below W.heap.size W w') := by
        intro u g1 hu hr9
        have hdu := DK.below HDS2.out hu
        have hbu := BookAt.below HBK2.out hu
        have h9 := write_all p g m z d DV c (some ⟨g1, 0, none⟩) 128 (fillS nx) u hdu hc (by rw [HREL.out.len]; exact HZN.out) (rd_row hr9) (fillS_len _) (fun y hy => by cases hy; exact fun e => hdu.not5 (.inl e) hr9)
        rw [HREL.out.fine.can] at h9
        refine h9.mono ?_
        rintro e w' ⟨rfl, DV', h10, h11⟩
        have h12 := Bk.disk (kb := kb) (N := N) (d' := d) (M := M) (M' := M) (nx := nx) (nx' := nx) (c' := c) (gm := gm) (cap := cap) (V := V) (below_next HBEL2.out hu) hdu HFT.out h11
        exact ⟨rfl, DV', h10, BookAt.disk hbu hdu h11, h12.1, h12.2⟩
      rw [← hX2]
      clear hX2
      go_wp2_with fail
      refine wp_region_noPanic ?_
      refine wp_region_held_drew (S := (fun u => BKd kb p nx u)) (by kernel_rfl) (by first | exact hB0 | assumption) (fun hHeld => ?_)
      refine take_at (i := 0) 24 (v := ?_) rfl rfl (by kernel_rfl) (by kernel_rfl) (by kernel_rfl) (fun _ _ _ h => h) (by rfl) ?_ hHeld ?_
      rotate_left
      · (intro w hSw; (try dsimp only at hSw); go_simp; try with_reducible rfl)
      simp only [Act.put, List.setIfInBounds_toArray, List.set_cons_zero, List.set_cons_succ]
      refine take_at (i := 1) 25 (v := ?_) rfl rfl (by kernel_rfl) (by kernel_rfl) (by kernel_rfl) (fun _ _ _ h => h) (by rfl) ?_ hHeld ?_
      rotate_left
      · (intro w hSw; (try dsimp only at hSw); go_simp; try with_reducible rfl)
      simp only [Act.put, List.setIfInBounds_toArray, List.set_cons_zero, List.set_cons_succ]
      refine take_at (i := 2) 26 (v := ?_) rfl rfl (by kernel_rfl) (by kernel_rfl) (by kernel_rfl) (fun _ _ _ h => h) (by rfl) ?_ hHeld ?_
      rotate_left
      · (intro w hSw; (try dsimp only at hSw); go_simp; try with_reducible rfl)
      simp only [Act.put, List.setIfInBounds_toArray, List.set_cons_zero, List.set_cons_succ]
      refine take_at (i := 3) 27 (v := ?_) rfl rfl (by kernel_rfl) (by kernel_rfl) (by kernel_rfl) (fun _ _ _ h => h) (by rfl) ?_ hHeld ?_
      rotate_left
      · (intro w hSw; (try dsimp only at hSw); go_simp; try with_reducible rfl)
      simp only [Act.put, List.setIfInBounds_toArray, List.set_cons_zero, List.set_cons_succ]
      refine take_at (i := 4) 28 (v := ?_) rfl rfl (by kernel_rfl) (by kernel_rfl) (by kernel_rfl) (fun _ _ _ h => h) (by rfl) ?_ hHeld ?_
      rotate_left
      · (intro w hSw; (try dsimp only at hSw); go_simp; try with_reducible rfl)
      simp only [Act.put, List.setIfInBounds_toArray, List.set_cons_zero, List.set_cons_succ]
      refine take_at (i := 5) 29 (v := ?_) rfl rfl (by kernel_rfl) (by kernel_rfl) (by kernel_rfl) (fun _ _ _ h => h) (by rfl) ?_ hHeld ?_
      rotate_left
      · (intro w hSw; (try dsimp only at hSw); go_simp; try with_reducible rfl)
      simp only [Act.put, List.setIfInBounds_toArray, List.set_cons_zero, List.set_cons_succ]
      refine take_at (i := 6) 30 (v := ?_) rfl rfl (by kernel_rfl) (by kernel_rfl) (by kernel_rfl) (fun _ _ _ h => h) (by rfl) ?_ hHeld ?_
      rotate_left
      · (intro w hSw; (try dsimp only at hSw); go_simp; try with_reducible rfl)
      simp only [Act.put, List.setIfInBounds_toArray, List.set_cons_zero, List.set_cons_succ]
      refine take_at (i := 7) 31 (v := ?_) rfl rfl (by kernel_rfl) (by kernel_rfl) (by kernel_rfl) (fun _ _ _ h => h) (by rfl) ?_ hHeld ?_
      rotate_left
      · (intro w hSw; (try dsimp only at hSw); go_simp; try with_reducible rfl)
      simp only [Act.put, List.setIfInBounds_toArray, List.set_cons_zero, List.set_cons_succ]
      refine take_at (i := 8) 32 (v := ?_) rfl rfl (by kernel_rfl) (by kernel_rfl) (by kernel_rfl) (fun _ _ _ h => h) (by rfl) ?_ hHeld ?_
      rotate_left
      · (intro w hSw; (try dsimp only at hSw); go_simp; try with_reducible rfl)
      simp only [Act.put, List.setIfInBounds_toArray, List.set_cons_zero, List.set_cons_succ]
      refine run_at (i := 9) rfl (by kernel_rfl) (by rfl) (fun K hK => ?_)
      simp only [List.getElem_toArray, List.getElem_cons_zero, List.getElem_cons_succ]
      go_simp
      first | (go_at_call 11; refine Calls.mono (HFI.out _) ?_; rintro e w3 ⟨g3, rfl, -, hr3, hb3⟩; have hb23 : Below X2.heap.size X2 w3 := below_next (B := X2) (Below.refl _ _).drew hb3; have hB3 : BKd kb p nx w3 := ⟨BookAt.k0 (BookAt.below HBK2.out hb23), BookAt.k2 (BookAt.below HBK2.out hb23)⟩; clear hb3) | (go_at_call 10; refine (HWR.out _ g3 hb23 hr3).mono ?_; rintro e w5 ⟨rfl, DV5, hds5, hbk5, hft5, hbel5⟩; have HDS5 : Hid _ := hds5; have HBK5 : Hid _ := hbk5; have HFT5 : Hid _ := hft5; have HBEL5 : Hid _ := hbel5; have hB5 : BKd kb p nx w5 := ⟨BookAt.k0 hbk5, BookAt.k2 hbk5⟩; clear hds5 hbk5 hft5 hbel5 hr3 hb23 hB3)
      go_wp2_with fail
      refine hK.out _ _ (by first | exact hB0 | assumption) ?_
      clear hK K
      intro hHeld2
      clear hHeld
      have hHeld := hHeld2
      clear hHeld2
      try simp only [Act.put, List.setIfInBounds_toArray, List.set_cons_zero, List.set_cons_succ]
      refine run_at (i := 10) rfl (by kernel_rfl) (by rfl) (fun K hK => ?_)
      simp only [List.getElem_toArray, List.getElem_cons_zero, List.getElem_cons_succ]
      go_simp
      first | (go_at_call 11; refine Calls.mono (HFI.out _) ?_; rintro e w3 ⟨g3, rfl, -, hr3, hb3⟩; have hb23 : Below X2.heap.size X2 w3 := below_next (B := X2) (Below.refl _ _).drew hb3; have hB3 : BKd kb p nx w3 := ⟨BookAt.k0 (BookAt.below HBK2.out hb23), BookAt.k2 (BookAt.below HBK2.out hb23)⟩; clear hb3) | (go_at_call 10; refine (HWR.out _ g3 hb23 hr3).mono ?_; rintro e w5 ⟨rfl, DV5, hds5, hbk5, hft5, hbel5⟩; have HDS5 : Hid _ := hds5; have HBK5 : Hid _ := hbk5; have HFT5 : Hid _ := hft5; have HBEL5 : Hid _ := hbel5; have hB5 : BKd kb p nx w5 := ⟨BookAt.k0 hbk5, BookAt.k2 hbk5⟩; clear hds5 hbk5 hft5 hbel5 hr3 hb23 hB3)
      go_wp2_with fail
      refine hK.out _ _ (by first | exact hB0 | assumption) ?_
      clear hK K
      intro hHeld2
      clear hHeld
      have hHeld := hHeld2
      clear hHeld2
      try simp only [Act.put, List.setIfInBounds_toArray, List.set_cons_zero, List.set_cons_succ]
      refine take_at (i := 11) 6 (v := ?_) rfl rfl (by kernel_rfl) (by kernel_rfl) (by kernel_rfl) (fun _ _ _ h => h) (by rfl) ?_ hHeld ?_
      rotate_left
      · (intro w hSw; (try dsimp only at hSw); go_simp; try with_reducible rfl)
      simp only [Act.put, List.setIfInBounds_toArray, List.set_cons_zero, List.set_cons_succ]
      refine wpAnyH_done (by kernel_rfl) ?_ _
      refine NoPanic.normal ?_
      clear hB0 hB5 hk0 hk2 HDS2 HBK2 HBEL2 HWR HFI hbX2
      have hm1 : ∀ u, BKm kb gm N cap nx u → u.cell? ⟨kb, 1, none⟩ = some (.slice (some ⟨gm, 0, none⟩) N cap) := fun u hu => hu.1
      have hm2 : ∀ u, BKm kb gm N cap nx u → u.cell? ⟨kb, 2, none⟩ = some (.int .i64 (nx : Int)) := fun u hu => hu.2
      have hM0 : BKm kb gm N cap nx w5.drew := ⟨BookAt.k1 (BookAt.below HBK5.out (Below.refl _ _).drew), BookAt.k2 (BookAt.below HBK5.out (Below.refl _ _).drew)⟩
      have hM1 : ∀ o, BKm kb gm N cap nx (w5.alloc o).drew := fun o => ⟨BookAt.k1 (BookAt.below HBK5.out (al (Below.refl _ _) o).drew), BookAt.k2 (BookAt.below HBK5.out (al (Below.refl _ _) o).drew)⟩
      have hM2 : ∀ o, BKm kb gm N cap nx (w5.alloc o) := fun o => ⟨BookAt.k1 (BookAt.below HBK5.out (al (Below.refl _ _) o)), BookAt.k2 (BookAt.below HBK5.out (al (Below.refl _ _) o))⟩
      have cvz := BookAt.cell HBK5.out z HZN.out
      obtain ⟨gz, cz, hvz, -, -, -⟩ := BookAt.row HBK5.out z HZN.out
      have hOWz := BookAt.rows HBK5.out z HZN.out
      obtain ⟨lz, hlz⟩ : ∃ l : Nat, l = (M z).length := ⟨_, rfl⟩
      have HLZ : Hid (lz ≤ 1099511627777) := by
        have h8 := (HREL.out.may z HZN.out).clen
        have h9 := CacheAt.few (DK.cache HDS5.out) z
        have h10 := DK.few HDS.out
        have h11 : ((d.write z (fillS nx)).C z).length = (d.C z).length + 1 := by unfold Dst.write; rw [HREL.out.fine.can]; simp [upd_same]
        unfold Hid
        omega
      have HGR : Hid (∀ U w7 v' , Below w5.heap.size w5 U → U.grownBy w7 (V z).ownBlock → OwnI w7 W.heap.size v' (M z ++ [(nx : Int)]) → (v'.ownBlock = (V z).ownBlock ∨ v'.ownBlock = some U.heap.size) → _) := fun U w7 v' hU hg how hwh => BookAt.grow (U := U) (w7 := w7) (v := v') HBK5.out z HZN.out hU (by simp) hg how hwh
      rw [hvz] at cvz hOWz HGR
      have hcvA : ∀ o : Obj, (w5.alloc o).cell? ⟨gm, z, none⟩ = some (.slice (some ⟨gz, 0, none⟩) (M z).length cz) := fun o => ((al (Below.refl _ _) o).cell (p := ⟨gm, z, none⟩) (World.block_lt_of_cell? w5 _ cvz)).trans cvz
      rw [← hlz] at cvz hOWz HGR hcvA
      have hgmw : gm < w5.heap.size := World.block_lt_of_cell? w5 _ cvz
      have HOWz : Hid _ := hOWz
      have hz0 : (0 : Int) ≤ (z : Int) := by omega
      have hzN : (z : Int) < (N : Int) := by have := HZN.out; omega
      have hWb : W.heap.size ≤ w5.heap.size := Below.size HBEL5.out
      have HLE : Hid _ := hlz
      clear hOWz hlz hvz
      go_wp2_with fail
      refine wp_region_noPanic ?_
      refine wp_region_held_drew (S := (fun u => BKm kb gm N cap nx u)) (by kernel_rfl) (by first | exact hM0 | exact hM1 _ | exact hM2 _ | assumption) (fun hHeld => ?_)
      refine take_at (i := 0) 35 (v := ?_) rfl rfl (by kernel_rfl) (by kernel_rfl) (by kernel_rfl) (fun _ _ _ h => h) (by rfl) ?_ hHeld ?_
      rotate_left
      · (intro w hSw; (try dsimp only at hSw); go_simp; try with_reducible rfl)
      simp only [Act.put, List.setIfInBounds_toArray, List.set_cons_zero, List.set_cons_succ]
      refine take_at (i := 1) 36 (v := ?_) rfl rfl (by kernel_rfl) (by kernel_rfl) (by kernel_rfl) (fun _ _ _ h => h) (by rfl) ?_ hHeld ?_
      rotate_left
      · (intro w hSw; (try dsimp only at hSw); go_simp; try with_reducible rfl)
      simp only [Act.put, List.setIfInBounds_toArray, List.set_cons_zero, List.set_cons_succ]
      refine take_at (i := 2) 37 (v := ?_) rfl rfl (by kernel_rfl) (by kernel_rfl) (by kernel_rfl) (fun _ _ _ h => h) (by rfl) ?_ hHeld ?_
      rotate_left
      · (intro w hSw; (try dsimp only at hSw); go_simp; try with_reducible rfl)
      simp only [Act.put, List.setIfInBounds_toArray, List.set_cons_zero, List.set_cons_succ]
      refine take_at (i := 3) 38 (v := ?_) rfl rfl (by kernel_rfl) (by kernel_rfl) (by kernel_rfl) (fun _ _ _ h => h) (by rfl) ?_ hHeld ?_
      rotate_left
      · (intro w hSw; (try dsimp only at hSw); go_simp; try with_reducible rfl)
      simp only [Act.put, List.setIfInBounds_toArray, List.set_cons_zero, List.set_cons_succ]
      refine take_at (i := 4) 39 (v := ?_) rfl rfl (by kernel_rfl) (by kernel_rfl) (by kernel_rfl) (fun _ _ _ h => h) (by rfl) ?_ hHeld ?_
      rotate_left
      · (intro w hSw; (try dsimp only at hSw); go_simp; try with_reducible rfl)
      simp only [Act.put, List.setIfInBounds_toArray, List.set_cons_zero, List.set_cons_succ]
      refine take_at (i := 5) 40 (v := ?_) rfl rfl (by kernel_rfl) (by kernel_rfl) (by kernel_rfl) (fun _ _ _ h => h) (by rfl) ?_ hHeld ?_
      rotate_left
      · (intro w hSw; (try dsimp only at hSw); go_simp; try with_reducible rfl)
      simp only [Act.put, List.setIfInBounds_toArray, List.set_cons_zero, List.set_cons_succ]
      refine take_at (i := 6) 41 (v := ?_) rfl rfl (by kernel_rfl) (by kernel_rfl) (by kernel_rfl) (fun _ _ _ h => h) (by rfl) ?_ hHeld ?_
      rotate_left
      · (intro w hSw; (try dsimp only at hSw); go_simp; try with_reducible rfl)
      simp only [Act.put, List.setIfInBounds_toArray, List.set_cons_zero, List.set_cons_succ]
      refine take_at (i := 7) 42 (v := ?_) rfl rfl (by kernel_rfl) (by kernel_rfl) (by kernel_rfl) (fun _ _ _ h => h) (by rfl) ?_ hHeld ?_
      rotate_left
      · (intro w hSw; (try dsimp only at hSw); go_simp; try with_reducible rfl)
      simp only [Act.put, List.setIfInBounds_toArray, List.set_cons_zero, List.set_cons_succ]
      refine take_at (i := 8) 43 (v := ?_) rfl rfl (by kernel_rfl) (by kernel_rfl) (by kernel_rfl) (fun _ _ _ h => h) (by rfl) ?_ hHeld ?_
      rotate_left
      · (intro w hSw; (try dsimp only at hSw); go_simp; try with_reducible rfl)
      simp only [Act.put, List.setIfInBounds_toArray, List.set_cons_zero, List.set_cons_succ]
      refine take_at (i := 9) 44 (v := ?_) rfl rfl (by kernel_rfl) (by kernel_rfl) (by kernel_rfl) (fun _ _ _ h => h) (by rfl) ?_ hHeld ?_
      rotate_left
      · (intro w hSw; (try dsimp only at hSw); go_simp; try with_reducible rfl)
      simp only [Act.put, List.setIfInBounds_toArray, List.set_cons_zero, List.set_cons_succ]
      refine take_at (i := 10) 45 (v := ?_) rfl rfl (by kernel_rfl) (by kernel_rfl) (by kernel_rfl) (fun _ _ _ h => h) (by rfl) ?_ hHeld ?_
      rotate_left
      · (intro w hSw; (try dsimp only at hSw); go_simp; try with_reducible rfl)
      simp only [Act.put, List.setIfInBounds_toArray, List.set_cons_zero, List.set_cons_succ]
      refine take_at (i := 12) 47 (v := ?_) rfl rfl (by kernel_rfl) (by kernel_rfl) (by kernel_rfl) (fun _ _ _ h => h) (by rfl) ?_ hHeld ?_
      rotate_left
      · (intro w hSw; (try dsimp only at hSw); go_simp; try with_reducible rfl)
      simp only [Act.put, List.setIfInBounds_toArray, List.set_cons_zero, List.set_cons_succ]
      refine take_at (i := 13) 48 (v := ?_) rfl rfl (by kernel_rfl) (by kernel_rfl) (by kernel_rfl) (fun _ _ _ h => h) (by rfl) ?_ hHeld ?_
      rotate_left
      · (intro w hSw; (try dsimp only at hSw); go_simp; try with_reducible rfl)
      simp only [Act.put, List.setIfInBounds_toArray, List.set_cons_zero, List.set_cons_succ]
      refine take_at (i := 14) 49 (v := ?_) rfl rfl (by kernel_rfl) (by kernel_rfl) (by kernel_rfl) (fun _ _ _ h => h) (by rfl) ?_ hHeld ?_
      rotate_left
      · (intro w hSw; (try dsimp only at hSw); go_simp; try with_reducible rfl)
      simp only [Act.put, List.setIfInBounds_toArray, List.set_cons_zero, List.set_cons_succ]
      refine take_at (i := 15) 50 (v := ?_) rfl rfl (by kernel_rfl) (by kernel_rfl) (by kernel_rfl) (fun _ _ _ h => h) (by rfl) ?_ hHeld ?_
      rotate_left
      · (intro w hSw; (try dsimp only at hSw); go_simp; try with_reducible rfl)
      simp only [Act.put, List.setIfInBounds_toArray, List.set_cons_zero, List.set_cons_succ]
      refine wpAnyH_ready (rs := [11, 16]) (by kernel_rfl) (by simp) ?_
      refine AllReadyH.cons (o := _) rfl (fun K hK => ?_) ?_
      focus
        rw [if_pos (by rfl)]
        refine val_wp 46 (v := ?_) rfl ?_ ?_
        rotate_left
        · (go_simp; try with_reducible rfl)
        refine hK.out _ _ (by first | exact hM0 | exact hM1 _ | exact hM2 _ | assumption) ?_
        clear hK K
        intro hHeld2
        clear hHeld
        have hHeld := hHeld2
        clear hHeld2
        simp only [Act.put, List.setIfInBounds_toArray, List.set_cons_zero, List.set_cons_succ]
        refine run_at (i := 16) rfl (by kernel_rfl) (by rfl) (fun K hK => ?_)
        simp only [List.getElem_toArray, List.getElem_cons_zero, List.getElem_cons_succ]
        go_simp
        go_wp2_with fail
        refine hK.out _ _ (by first | exact hM0 | exact hM1 _ | exact hM2 _ | assumption) ?_
        clear hK K
        intro hHeld2
        clear hHeld
        have hHeld := hHeld2
        clear hHeld2
        try simp only [Act.put, List.setIfInBounds_toArray, List.set_cons_zero, List.set_cons_succ]
        refine run_at (i := 17) rfl (by kernel_rfl) (by rfl) (fun K hK => ?_)
        simp only [List.getElem_toArray, List.getElem_cons_zero, List.getElem_cons_succ]
        (refine wpo_appI _ _ rfl W.heap.size (.slice (some ⟨gz, 0, none⟩) lz cz) (M z) lz (nx : Int) w5.heap.size HLE.out rfl (OwnI.below HOWz.out (by first | exact (al (Below.refl _ _) _).drew | exact al (Below.refl _ _) _)) rfl (heap_alloc_new w5 _) HLZ.out (by first | (simp; omega) | omega) ?_; intro g7 cap7 w7 how7 hg7 hwh7; obtain ⟨⟨e1, e1b, e2, e3⟩, e4, e5⟩ := HGR.out _ w7 _ (by first | exact (al (Below.refl _ _) _).drew | exact al (Below.refl _ _) _) hg7 how7 (by rcases hwh7 with e | e; (· exact .inl e.symm); (· exact .inr (by rw [e]; rfl))); obtain ⟨u7, e2⟩ := e2; have hM7 : BKm kb gm N cap nx w7 := ⟨e1, e1b⟩; have hM8 : BKm kb gm N cap nx (w7.setCell ⟨gm, z, none⟩ (.slice (some ⟨g7, 0, none⟩) (lz + 1) cap7)) := ⟨BookAt.k1 e4, BookAt.k2 e4⟩; have HBK8 : Hid _ := e4; have HCG8 : Hid _ := e5; clear how7 hg7 hwh7 e1 e1b e4 e5)
        refine hK.out _ _ (by first | exact hM0 | exact hM1 _ | exact hM2 _ | assumption) ?_
        clear hK K
        intro hHeld2
        clear hHeld
        have hHeld := hHeld2
        clear hHeld2
        try simp only [Act.put, List.setIfInBounds_toArray, List.set_cons_zero, List.set_cons_succ]
        refine take_at (i := 18) 53 (v := ?_) rfl rfl (by kernel_rfl) (by kernel_rfl) (by kernel_rfl) (fun _ _ _ h => h) (by rfl) ?_ hHeld ?_
        rotate_left
        · (intro w hSw; (try dsimp only at hSw); go_simp; try with_reducible rfl)
        simp only [Act.put, List.setIfInBounds_toArray, List.set_cons_zero, List.set_cons_succ]
        refine run_at (i := 19) rfl (by kernel_rfl) (by rfl) (fun K hK => ?_)
        simp only [List.getElem_toArray, List.getElem_cons_zero, List.getElem_cons_succ]
        go_simp
        go_wp2_with fail
        refine hK.out _ _ (by first | exact hM0 | exact hM1 _ | exact hM2 _ | assumption) ?_
        clear hK K
        intro hHeld2
        clear hHeld
        have hHeld := hHeld2
        clear hHeld2
        try simp only [Act.put, List.setIfInBounds_toArray, List.set_cons_zero, List.set_cons_succ]
        refine wpAnyH_done (by kernel_rfl) ?_ _
        refine NoPanic.normal ?_
      rotate_left 1
      refine AllReadyH.cons (o := _) rfl (fun K hK => ?_) AllReadyH.nil
      focus
        rw [if_pos (by rfl)]
        simp only [List.getElem_toArray, List.getElem_cons_zero, List.getElem_cons_succ]
        go_simp
        go_wp2_with fail
        refine hK.out _ _ (by first | exact hM0 | exact hM1 _ | exact hM2 _ | assumption) ?_
        clear hK K
        intro hHeld2
        clear hHeld
        have hHeld := hHeld2
        clear hHeld2
        try simp only [Act.put, List.setIfInBounds_toArray, List.set_cons_zero, List.set_cons_succ]
        refine val_at (i := 11) 46 (v := ?_) rfl rfl (by kernel_rfl) (by rfl) ?_ ?_ ?_
        rotate_left
        · (go_simp; try with_reducible rfl)
        · (first | exact hM0 | exact hM1 _ | exact hM2 _ | assumption)
        intro hHeld2
        clear hHeld
        have hHeld := hHeld2
        clear hHeld2
        simp only [Act.put, List.setIfInBounds_toArray, List.set_cons_zero, List.set_cons_succ]
        refine run_at (i := 17) rfl (by kernel_rfl) (by rfl) (fun K hK => ?_)
        simp only [List.getElem_toArray, List.getElem_cons_zero, List.getElem_cons_succ]
        (refine wpo_appI _ _ rfl W.heap.size (.slice (some ⟨gz, 0, none⟩) lz cz) (M z) lz (nx : Int) w5.heap.size HLE.out rfl (OwnI.below HOWz.out (by first | exact (al (Below.refl _ _) _).drew | exact al (Below.refl _ _) _)) rfl (heap_alloc_new w5 _) HLZ.out (by first | (simp; omega) | omega) ?_; intro g7 cap7 w7 how7 hg7 hwh7; obtain ⟨⟨e1, e1b, e2, e3⟩, e4, e5⟩ := HGR.out _ w7 _ (by first | exact (al (Below.refl _ _) _).drew | exact al (Below.refl _ _) _) hg7 how7 (by rcases hwh7 with e | e; (· exact .inl e.symm); (· exact .inr (by rw [e]; rfl))); obtain ⟨u7, e2⟩ := e2; have hM7 : BKm kb gm N cap nx w7 := ⟨e1, e1b⟩; have hM8 : BKm kb gm N cap nx (w7.setCell ⟨gm, z, none⟩ (.slice (some ⟨g7, 0, none⟩) (lz + 1) cap7)) := ⟨BookAt.k1 e4, BookAt.k2 e4⟩; have HBK8 : Hid _ := e4; have HCG8 : Hid _ := e5; clear how7 hg7 hwh7 e1 e1b e4 e5)
        refine hK.out _ _ (by first | exact hM0 | exact hM1 _ | exact hM2 _ | assumption) ?_
        clear hK K
        intro hHeld2
        clear hHeld
        have hHeld := hHeld2
        clear hHeld2
        try simp only [Act.put, List.setIfInBounds_toArray, List.set_cons_zero, List.set_cons_succ]
        refine take_at (i := 18) 53 (v := ?_) rfl rfl (by kernel_rfl) (by kernel_rfl) (by kernel_rfl) (fun _ _ _ h => h) (by rfl) ?_ hHeld ?_
        rotate_left
        · (intro w hSw; (try dsimp only at hSw); go_simp; try with_reducible rfl)
        simp only [Act.put, List.setIfInBounds_toArray, List.set_cons_zero, List.set_cons_succ]
        refine run_at (i := 19) rfl (by kernel_rfl) (by rfl) (fun K hK => ?_)
        simp only [List.getElem_toArray, List.getElem_cons_zero, List.getElem_cons_succ]
        go_simp
        go_wp2_with fail
        refine hK.out _ _ (by first | exact hM0 | exact hM1 _ | exact hM2 _ | assumption) ?_
        clear hK K
        intro hHeld2
        clear hHeld
        have hHeld := hHeld2
        clear hHeld2
        try simp only [Act.put, List.setIfInBounds_toArray, List.set_cons_zero, List.set_cons_succ]
        refine wpAnyH_done (by kernel_rfl) ?_ _
        refine NoPanic.normal ?_
      all_goals
        obtain ⟨w8, hw8⟩ : ∃ w8 : World, w8 = w7.setCell ⟨gm, z, none⟩ (.slice (some ⟨g7, 0, none⟩) (lz + 1) cap7) := ⟨_, rfl⟩
        rw [← hw8] at HBK8 HCG8 ⊢
        clear hw8 hM0 hM1 hM2 hM7 hM8 hm1 hm2
        have hk8 := BookAt.k2 HBK8.out
        have hf8 := frozen_of_row w8 kb 2 _ _ (BookAt.hk HBK8.out)
        obtain ⟨ny, hny⟩ : ∃ ny : Nat, ny = nx + 1 := ⟨_, rfl⟩
        have hnw : IntKind.i64.wrap ((nx : Int) + 1) = (ny : Int) := by rw [IntKind.wrap_i64]; omega
        have hnv : IntKind.i64.wrap ((ny : Int) - 1) = (nx : Int) := by rw [IntKind.wrap_i64]; omega
        have HFIN : Hid (Bk W (w8.setCell ⟨kb, 2, none⟩ (.int .i64 (ny : Int))) kb N (d.write z (fillS nx)) (upd M z (M z ++ [(nx : Int)])) ny (c + 1)) := by
          obtain ⟨b1, b2⟩ := BookAt.next HBK8.out ny
          have d8 : DS w8 p g m (d.write z (fillS nx)) DV5 (c + 1) := DK.kept HDS5.out HCG8.out (fun b hb hf => by
            rcases hf with e | e
            · subst e
              obtain ⟨cur, h9, -⟩ := BookAt.hm HBK5.out
              exact DK.notT HDS5.out hb farSl h9
            · obtain ⟨cur, h9⟩ := OwnI.at_ HOWz.out e
              exact DK.notT HDS5.out hb farIn h9)
          have d9 := DK.kept d8 b2 (fun b hb e => by subst e; exact DK.notT d8 hb farBk (BookAt.hk HBK8.out))
          refine ⟨⟨p, g, m, DV5, gm, cap, _, d9, HFT5.out, b1⟩, by rw [hny]; exact HREL.out.write z, ?_⟩
          refine Below.trans (Below.trans HBEL5.out (Chg.below HCG8.out (fun b hb => ?_) hWb)) (b2.below (fun b hb => by rw [hb]; exact BookAt.bk HBK5.out) (Nat.le_trans hWb (Chg.size HCG8.out)))
          rcases hb with e | e
          · rw [e]; exact BookAt.bg HBK5.out
          · exact (World.ownsRow.lt HOWz.out b e).1
        have HRD : Hid _ := reads_t HFIN.out z HZN.out (nx : Int) (by rw [BookRel.reads (Bk.rel HFIN.out) z HZN.out, upd_same]; congr 1; simp [lastI]) ⟨by omega, by omega⟩
        have HNY : Hid _ := hny
        clear hny e2 e3 HBK8 HCG8 HBK5 HDS5 HFT5 HBEL5 HGR HOWz HLE
        go_wp2_with fail
        refine Calls.mono HRD.out ?_
        rintro e w10 ⟨rfl, hb10⟩
        go_wp2
        go_ret
        exact ⟨rfl, _, _, _, Bk.below HFIN.out hb10, by rw [HNY.out]; omega⟩
    · by_cases q2 : q = 2
      · subst q2
        have HFL : Hid (Calls Try.prog 12 #[.pointer (some ⟨p, 0, none⟩)] X fun e w' => e = .returned (.int .i64 0) ∧ ∃ DV', DS w' p g m d.flush DV' c ∧ BookAt w' W.heap.size kb gm cap p N M V nx ∧ (∀ b, foot p g m DV' b → W.heap.size ≤ b) ∧ Below W.heap.size W w') := by
          have h9 := flush_all p g m d DV c X HDS.out
          rw [HREL.out.fine.can] at h9
          refine h9.mono ?_
          rintro e w' ⟨rfl, DV', h10, h11⟩
          have h12 := Bk.disk (kb := kb) (N := N) (d' := d) (M := M) (M' := M) (nx := nx) (nx' := nx) (c' := c) (gm := gm) (cap := cap) (V := V) HBEL.out HDS.out HFT.out h11
          exact ⟨rfl, DV', h10, BookAt.disk HBK.out HDS.out h11, h12.1, h12.2⟩
        have c0w := c0
        rw [hX] at c0w
        go_enter Try.func27, Try.ntmps27
        go_wp2_with fail
        rw [← hX, ← hL]
        clear hX hL c0w
        refine HFL.out.mono ?_
        rintro e w5 ⟨rfl, DV5, hds5, hbk5, hft5, hbel5⟩
        have HDS5 : Hid _ := hds5
        have HBK5 : Hid _ := hbk5
        have HFT5 : Hid _ := hft5
        have HBEL5 : Hid _ := hbel5
        have hWb : W.heap.size ≤ w5.heap.size := hbel5.size
        clear hds5 hbk5 hft5 hbel5 HFL c0 c1 c2
        go_wp2_with fail
        go_loopw [8, 9] (fun i _ wr => ∃ (k : Nat) (V' : Nat → Value), k ≤ N ∧ i = .int .i64 (k : Int) ∧ BookAt wr W.heap.size kb gm cap p N (fun j => if j < k then [lastI (M j)] else M j) V' nx ∧ Chg (fun b => b = gm) w5 wr) (fun i _ _ => N - (intOf i).toNat)
        case atStart => exact ⟨0, V, Nat.zero_le _, rfl, HBK5.out, Chg.refl _ _⟩
        case round =>
          obtain ⟨k, V', hk, rfl, hbk, hcg⟩ := hrel
          have c1 := hbk.k1
          have hk0 : (0 : Int) ≤ (k : Int) := by omega
          have hkw : IntKind.i64.wrap ((k : Int) + 1) = ((k + 1 : Nat) : Int) := by rw [IntKind.wrap_i64]; omega
          have HCG : Hid _ := hcg
          have HBKk : Hid _ := hbk
          by_cases hlt : k < N
          · have hlti : (k : Int) < (N : Int) := by omega
            have cv := hbk.cell k hlt
            have hne := hbk.ne k hlt
            obtain ⟨gr, cr, hv, -, hgs, hcl9⟩ := hbk.row k hlt
            simp only [Nat.lt_irrefl, if_false] at hv hcl9 hne
            obtain ⟨ln, hln⟩ : ∃ n, n = (M k).length := ⟨_, rfl⟩
            obtain ⟨y, hy⟩ : ∃ y : Nat, y = ln - 1 := ⟨_, rfl⟩
            have hpos := List.length_pos_iff.2 hne
            have hcz := hcl9 y (by omega)
            have hlz : (M k)[y]'(by omega) = lastI (M k) := by
              rw [← last_at hne]
              congr 1
              omega
            obtain ⟨v, hvv⟩ : ∃ v, v = lastI (M k) := ⟨_, rfl⟩
            rw [hlz, ← hvv] at hcz
            rw [hv, ← hln] at cv
            have hlb : ln ≤ 1099511627777 := by
              have h8 := (HREL.out.may k hlt).clen
              have h9 := CacheAt.few (DK.cache HDS.out) k
              have h10 := DK.few HDS.out
              omega
            have hyw : IntKind.i64.wrap ((ln : Int) - 1) = (y : Int) := by rw [IntKind.wrap_i64]; omega
            have hy0 : (0 : Int) ≤ (y : Int) := by omega
            have hyn : (y : Int) < (ln : Int) := by omega
            have HST : Hid _ := BookAt.single hbk (Nat.le_trans hWb hcg.size) k hlt v
            have hb1 : ∀ u, BKl kb gm N cap gr y v u → u.cell? ⟨kb, 1, none⟩ = some (.slice (some ⟨gm, 0, none⟩) N cap) := fun u hu => hu.1
            have hb2 : ∀ u, BKl kb gm N cap gr y v u → u.cell? ⟨gr, y, none⟩ = some (.int .i64 v) := fun u hu => hu.2
            have hB0 : BKl kb gm N cap gr y v wr.drew := ⟨c1, hcz⟩
            have hB1 : ∀ o, BKl kb gm N cap gr y v (wr.alloc o).drew := fun o => ⟨((al (Below.refl _ _) o).cell (p := ⟨kb, 1, none⟩) (World.block_lt_of_cell? wr _ c1)).trans c1, ((al (Below.refl _ _) o).cell (p := ⟨gr, y, none⟩) hgs).trans hcz⟩
            obtain ⟨cur, hcur, -⟩ := hbk.hm
            have hgml : gm < wr.heap.size := (Array.getElem?_eq_some_iff.1 hcur).1
            have hgmn : ¬ gm = wr.heap.size := by omega
            have hf := frozen_of_row wr gm k _ _ hcur
            have hfA : ∀ o : Obj, (wr.alloc o).frozen? ⟨gm, k, none⟩ = false := fun o => by rw [← hf]; exact World.frozen?_of_block ((al (Below.refl _ _) o).block gm hgml)
            have hB2 : BKl kb gm N cap gr y v ((wr.setCell ⟨gm, k, none⟩ (.slice (some ⟨wr.heap.size, 0, none⟩) 1 1)).alloc (.cells #[.int .i64 v] 3)).drew := by
              refine ⟨BookAt.k1 HST.out.1, ?_⟩
              have hgg : gr ≠ gm := fun e => by
                obtain ⟨c9, h9⟩ := OwnI.at_ (hbk.rows k hlt) (b := gr) (by rw [hv]; rfl)
                rw [e, hcur] at h9
                simp only [Option.some.injEq, Obj.cells.injEq] at h9
                exact absurd h9.2.1 (by decide)
              rw [← hcz]
              exact World.cell?_of_block (Chg.block HST.out.2 gr hgs hgg)
            have HNX : Hid (BookAt ((wr.setCell ⟨gm, k, none⟩ (.slice (some ⟨wr.heap.size, 0, none⟩) 1 1)).alloc (.cells #[.int .i64 v] 3)).drew W.heap.size kb gm cap p N (fun j => if j < k + 1 then [lastI (M j)] else M j) (upd V' k (.slice (some ⟨wr.heap.size, 0, none⟩) 1 1)) nx) := by
              have e9 : (fun j => if j < k + 1 then [lastI (M j)] else M j) = upd (fun j => if j < k then [lastI (M j)] else M j) k [v] := by
                funext j
                by_cases ej : j = k
                · subst ej
                  rw [upd_same, if_pos (by omega), hvv]
                · rw [upd_other _ ej]
                  by_cases e3 : j < k
                  · simp [e3, show j < k + 1 by omega]
                  · simp [e3, show ¬ j < k + 1 by omega]
              rw [e9]
              exact HST.out.1
            clear hv hcl9 hln hy hlz hvv hpos hne hbk hcg hcur
            go_wp2_with fail
            refine wp_region_noPanic ?_
            refine wp_region_held_drew (S := (fun u => BKl kb gm N cap gr y v u)) (by kernel_rfl) (by first | exact hB0 | exact hB1 _ | exact hB2 | assumption) (fun hHeld => ?_)
            refine take_at (i := 0) 96 (v := ?_) rfl rfl (by kernel_rfl) (by kernel_rfl) (by kernel_rfl) (fun _ _ _ h => h) (by rfl) ?_ hHeld ?_
            rotate_left
            · (intro w hSw; (try dsimp only at hSw); go_simp; try with_reducible rfl)
            simp only [Act.put, List.setIfInBounds_toArray, List.set_cons_zero, List.set_cons_succ]
            refine take_at (i := 1) 97 (v := ?_) rfl rfl (by kernel_rfl) (by kernel_rfl) (by kernel_rfl) (fun _ _ _ h => h) (by rfl) ?_ hHeld ?_
            rotate_left
            · (intro w hSw; (try dsimp only at hSw); go_simp; try with_reducible rfl)
            simp only [Act.put, List.setIfInBounds_toArray, List.set_cons_zero, List.set_cons_succ]
            refine take_at (i := 2) 98 (v := ?_) rfl rfl (by kernel_rfl) (by kernel_rfl) (by kernel_rfl) (fun _ _ _ h => h) (by rfl) ?_ hHeld ?_
            rotate_left
            · (intro w hSw; (try dsimp only at hSw); go_simp; try with_reducible rfl)
            simp only [Act.put, List.setIfInBounds_toArray, List.set_cons_zero, List.set_cons_succ]
            refine take_at (i := 3) 99 (v := ?_) rfl rfl (by kernel_rfl) (by kernel_rfl) (by kernel_rfl) (fun _ _ _ h => h) (by rfl) ?_ hHeld ?_
            rotate_left
            · (intro w hSw; (try dsimp only at hSw); go_simp; try with_reducible rfl)
            simp only [Act.put, List.setIfInBounds_toArray, List.set_cons_zero, List.set_cons_succ]
            refine take_at (i := 4) 100 (v := ?_) rfl rfl (by kernel_rfl) (by kernel_rfl) (by kernel_rfl) (fun _ _ _ h => h) (by rfl) ?_ hHeld ?_
            rotate_left
            · (intro w hSw; (try dsimp only at hSw); go_simp; try with_reducible rfl)
            simp only [Act.put, List.setIfInBounds_toArray, List.set_cons_zero, List.set_cons_succ]
            refine take_at (i := 5) 101 (v := ?_) rfl rfl (by kernel_rfl) (by kernel_rfl) (by kernel_rfl) (fun _ _ _ h => h) (by rfl) ?_ hHeld ?_
            rotate_left
            · (intro w hSw; (try dsimp only at hSw); go_simp; try with_reducible rfl)
            simp only [Act.put, List.setIfInBounds_toArray, List.set_cons_zero, List.set_cons_succ]
            refine take_at (i := 6) 102 (v := ?_) rfl rfl (by kernel_rfl) (by kernel_rfl) (by kernel_rfl) (fun _ _ _ h => h) (by rfl) ?_ hHeld ?_
            rotate_left
            · (intro w hSw; (try dsimp only at hSw); go_simp; try with_reducible rfl)
            simp only [Act.put, List.setIfInBounds_toArray, List.set_cons_zero, List.set_cons_succ]
            refine take_at (i := 7) 103 (v := ?_) rfl rfl (by kernel_rfl) (by kernel_rfl) (by kernel_rfl) (fun _ _ _ h => h) (by rfl) ?_ hHeld ?_
            rotate_left
            · (intro w hSw; (try dsimp only at hSw); go_simp; try with_reducible rfl)
            simp only [Act.put, List.setIfInBounds_toArray, List.set_cons_zero, List.set_cons_succ]
            refine take_at (i := 8) 104 (v := ?_) rfl rfl (by kernel_rfl) (by kernel_rfl) (by kernel_rfl) (fun _ _ _ h => h) (by rfl) ?_ hHeld ?_
            rotate_left
            · (intro w hSw; (try dsimp only at hSw); go_simp; try with_reducible rfl)
            simp only [Act.put, List.setIfInBounds_toArray, List.set_cons_zero, List.set_cons_succ]
            refine take_at (i := 9) 105 (v := ?_) rfl rfl (by kernel_rfl) (by kernel_rfl) (by kernel_rfl) (fun _ _ _ h => h) (by rfl) ?_ hHeld ?_
            rotate_left
            · (intro w hSw; (try dsimp only at hSw); go_simp; try with_reducible rfl)
            simp only [Act.put, List.setIfInBounds_toArray, List.set_cons_zero, List.set_cons_succ]
            refine take_at (i := 10) 106 (v := ?_) rfl rfl (by kernel_rfl) (by kernel_rfl) (by kernel_rfl) (fun _ _ _ h => h) (by rfl) ?_ hHeld ?_
            rotate_left
            · (intro w hSw; (try dsimp only at hSw); go_simp; try with_reducible rfl)
            simp only [Act.put, List.setIfInBounds_toArray, List.set_cons_zero, List.set_cons_succ]
            refine run_at (i := 11) rfl (by kernel_rfl) (by rfl) (fun K hK => ?_)
            simp only [List.getElem_toArray, List.getElem_cons_zero, List.getElem_cons_succ]
            go_simp
            go_wp2_with fail
            refine hK.out _ _ (by first | exact hB0 | exact hB1 _ | exact hB2 | assumption) ?_
            clear hK K
            intro hHeld2
            clear hHeld
            have hHeld := hHeld2
            clear hHeld2
            try simp only [Act.put, List.setIfInBounds_toArray, List.set_cons_zero, List.set_cons_succ]
            refine take_at (i := 12) 108 (v := ?_) rfl rfl (by kernel_rfl) (by kernel_rfl) (by kernel_rfl) (fun _ _ _ h => h) (by rfl) ?_ hHeld ?_
            rotate_left
            · (intro w hSw; (try dsimp only at hSw); go_simp; try with_reducible rfl)
            simp only [Act.put, List.setIfInBounds_toArray, List.set_cons_zero, List.set_cons_succ]
            refine run_at (i := 13) rfl (by kernel_rfl) (by rfl) (fun K hK => ?_)
            simp only [List.getElem_toArray, List.getElem_cons_zero, List.getElem_cons_succ]
            go_simp
            go_wp2_with fail
            refine hK.out _ _ (by first | exact hB0 | exact hB1 _ | exact hB2 | assumption) ?_
            clear hK K
            intro hHeld2
            clear hHeld
            have hHeld := hHeld2
            clear hHeld2
            try simp only [Act.put, List.setIfInBounds_toArray, List.set_cons_zero, List.set_cons_succ]
            refine wpAnyH_done (by kernel_rfl) ?_ _
            refine NoPanic.normal ?_
            go_wp2
            go_roundw
            case rel => exact ⟨k + 1, _, by omega, rfl, HNX.out, Chg.trans HCG.out HST.out.2 (fun b hb => .inl hb)⟩
            case measure => simp [intOf]; omega
          · have hlti : ¬ (k : Int) < (N : Int) := by omega
            obtain rfl : k = N := by omega
            have HFIN : Hid (Bk W wr kb k d.flush (fun i => [lastI (M i)]) nx (c + 1)) := by
              have d8 : DS wr p g m d.flush DV5 c := DK.kept HDS5.out hcg (fun b hb e => by
                subst e
                obtain ⟨cur, h9, -⟩ := BookAt.hm HBK5.out
                exact DK.notT HDS5.out hb farSl h9)
              refine ⟨⟨p, g, m, DV5, gm, cap, V', DK.more d8 (by omega) (by omega), HFT5.out, ⟨hbk.hk, hbk.hm, fun i hi => ?_, hbk.apart, fun i hi => by simp, hbk.bk, hbk.bg⟩⟩, HREL.out.flush, Below.trans HBEL5.out (hcg.below (fun b hb => by rw [hb]; exact hbk.bg) hWb)⟩
              have := hbk.rows i hi
              simpa [hi] using this
            clear hbk hcg
            go_wp2
            go_ret
            exact ⟨rfl, _, _, _, HFIN.out, by omega⟩
      · by_cases q3 : q = 3
        · subst q3
          have HCR : Hid (∀ u, Below X.heap.size X u → Calls Try.prog 15 #[.pointer (some ⟨p, 0, none⟩), .slice ca cs.length cc] u fun e w' => e = .returned (.tuple #[]) ∧ ∃ DV', DS w' p g m (d.crash cs) DV' c ∧ BookAt w' W.heap.size kb gm cap p N M V nx ∧ (∀ b, foot p g m DV' b → W.heap.size ≤ b) ∧ Below W.heap.size W w' ∧ w'.cell? ⟨L, 2, none⟩ = some (.slice ca cs.length cc)) := by
            intro u hu
            have hdu := DK.below HDS.out hu
            have hbu := BookAt.below HBK.out hu
            have hWu : Below W.heap.size W u := below_next HBEL.out hu
            have h9 := crash_all p g m d DV c ca cc cs u hdu (Ints.below HI.out hWu) (fun h0 y hy => by
              have h8 := Ints.lt HI.out h0 y hy
              have a1 := HFT.out p (.inl rfl)
              have a2 := HFT.out g (.inr (.inl rfl))
              have a3 := HFT.out m (.inr (.inr (.inl rfl)))
              omega)
            refine h9.mono ?_
            rintro e w' ⟨rfl, DV', h10, h11⟩
            have h12 := Bk.disk (kb := kb) (N := N) (d' := d) (M := M) (M' := M) (nx := nx) (nx' := nx) (c' := c) (gm := gm) (cap := cap) (V := V) hWu hdu HFT.out h11
            refine ⟨rfl, DV', h10, BookAt.disk hbu hdu h11, h12.1, h12.2, ?_⟩
            have hru : u.heap[L]? = some (.cells #[.int .i64 3, .int .i64 t, .slice ca cs.length cc] 48 (0, 0)) := (hu.block L HLX.out).trans HXR.out
            have hrw := (h11.chg.block L (Array.getElem?_eq_some_iff.1 hru).1 (fun hf => DK.notT hdu hf ⟨by decide, by decide, by decide⟩ hru)).trans hru
            rw [cell_of_row _ _ 2 _ _ _ hrw]
            rfl
          have hb1 : ∀ u, BKc kb p L ca cs.length cc u → u.cell? ⟨kb, 0, none⟩ = some (.pointer (some ⟨p, 0, none⟩)) := fun u hu => hu.1
          have hb2 : ∀ u, BKc kb p L ca cs.length cc u → u.cell? ⟨L, 2, none⟩ = some (.slice ca cs.length cc) := fun u hu => hu.2
          have hB0 : BKc kb p L ca cs.length cc X.drew := ⟨c0, x2⟩
          obtain ⟨lc, hlc⟩ : ∃ l : Nat, l = cs.length := ⟨_, rfl⟩
          have HLC : Hid _ := hlc
          rw [← hlc] at hb1 hb2 hB0 hX HCR x2 ⊢
          clear hlc
          go_enter Try.func27, Try.ntmps27
          go_wp2_with fail
          rw [← hX, ← hL]
          clear hX hL
          go_wp2_with fail
          refine wp_region_noPanic ?_
          refine wp_region_held_drew (S := (fun u => BKc kb p L ca lc cc u)) (by kernel_rfl) (by first | exact hB0 | assumption) (fun hHeld => ?_)
          refine take_at (i := 0) 113 (v := ?_) rfl rfl (by kernel_rfl) (by kernel_rfl) (by kernel_rfl) (fun _ _ _ h => h) (by rfl) ?_ hHeld ?_
          rotate_left
          · (intro w hSw; (try dsimp only at hSw); go_simp; try with_reducible rfl)
          simp only [Act.put, List.setIfInBounds_toArray, List.set_cons_zero, List.set_cons_succ]
          refine take_at (i := 1) 114 (v := ?_) rfl rfl (by kernel_rfl) (by kernel_rfl) (by kernel_rfl) (fun _ _ _ h => h) (by rfl) ?_ hHeld ?_
          rotate_left
          · (intro w hSw; (try dsimp only at hSw); go_simp; try with_reducible rfl)
          simp only [Act.put, List.setIfInBounds_toArray, List.set_cons_zero, List.set_cons_succ]
          refine take_at (i := 2) 115 (v := ?_) rfl rfl (by kernel_rfl) (by kernel_rfl) (by kernel_rfl) (fun _ _ _ h => h) (by rfl) ?_ hHeld ?_
          rotate_left
          · (intro w hSw; (try dsimp only at hSw); go_simp; try with_reducible rfl)
          simp only [Act.put, List.setIfInBounds_toArray, List.set_cons_zero, List.set_cons_succ]
          refine take_at (i := 3) 116 (v := ?_) rfl rfl (by kernel_rfl) (by kernel_rfl) (by kernel_rfl) (fun _ _ _ h => h) (by rfl) ?_ hHeld ?_
          rotate_left
          · (intro w hSw; (try dsimp only at hSw); go_simp; try with_reducible rfl)
          simp only [Act.put, List.setIfInBounds_toArray, List.set_cons_zero, List.set_cons_succ]
          refine take_at (i := 4) 117 (v := ?_) rfl rfl (by kernel_rfl) (by kernel_rfl) (by kernel_rfl) (fun _ _ _ h => h) (by rfl) ?_ hHeld ?_
          rotate_left
          · (intro w hSw; (try dsimp only at hSw); go_simp; try with_reducible rfl)
          simp only [Act.put, List.setIfInBounds_toArray, List.set_cons_zero, List.set_cons_succ]
          refine take_at (i := 5) 118 (v := ?_) rfl rfl (by kernel_rfl) (by kernel_rfl) (by kernel_rfl) (fun _ _ _ h => h) (by rfl) ?_ hHeld ?_
          rotate_left
          · (intro w hSw; (try dsimp only at hSw); go_simp; try with_reducible rfl)
          simp only [Act.put, List.setIfInBounds_toArray, List.set_cons_zero, List.set_cons_succ]
          refine run_at (i := 6) rfl (by kernel_rfl) (by rfl) (fun K hK => ?_)
          simp only [List.getElem_toArray, List.getElem_cons_zero, List.getElem_cons_succ]
          go_simp
          (go_at_call 15; refine (HCR.out _ (Below.refl _ _).drew).mono ?_; rintro e w5 ⟨rfl, DV5, hds5, hbk5, hft5, hbel5, hl5⟩; have hB5 : BKc kb p L ca lc cc w5 := ⟨BookAt.k0 hbk5, hl5⟩; have HDS5 : Hid _ := hds5; have HBK5 : Hid _ := hbk5; have HFT5 : Hid _ := hft5; have HBEL5 : Hid _ := hbel5; clear hds5 hbk5 hft5 hbel5)
          go_wp2_with fail
          refine hK.out _ _ (by first | exact hB0 | assumption) ?_
          clear hK K
          intro hHeld2
          clear hHeld
          have hHeld := hHeld2
          clear hHeld2
          try simp only [Act.put, List.setIfInBounds_toArray, List.set_cons_zero, List.set_cons_succ]
          refine wpAnyH_done (by kernel_rfl) ?_ _
          refine NoPanic.normal ?_
          have HCD : Hid (Calls Try.prog 41 #[.pointer (some ⟨kb, 0, none⟩), .slice ca lc cc] w5 fun e w' => e = .returned (.tuple #[]) ∧ ∃ V', BookAt w' W.heap.size kb gm cap p N (crM M cs) V' nx ∧ Chg (fun b => b = gm) w5 w') := by
            rw [HLC.out]
            exact crashed_t HBK5.out (Below.size HBEL5.out) hN (fun i hi => by
              have h8 := (HREL.out.may i hi).clen
              have h9 := CacheAt.few (DK.cache HDS.out) i
              have h10 := DK.few HDS.out
              omega) ca cc cs (Ints.below HI.out HBEL5.out) (fun h0 q hq => Ints.lt HI.out h0 q hq)
          clear hB0 hB5 hb1 hb2 HCR
          go_wp2_with fail
          refine HCD.out.mono ?_
          rintro e w6 ⟨rfl, V6, hbk6, hcg6⟩
          have HFIN : Hid (Bk W w6 kb N (d.crash cs) (crM M cs) nx (c + 1)) := by
            have d8 : DS w6 p g m (d.crash cs) DV5 c := DK.kept HDS5.out hcg6 (fun b hb e => by
              subst e
              obtain ⟨cur, h9, -⟩ := BookAt.hm HBK5.out
              exact DK.notT HDS5.out hb farSl h9)
            exact ⟨⟨p, g, m, DV5, gm, cap, V6, DK.more d8 (by omega) (by omega), HFT5.out, hbk6⟩, HREL.out.crash cs, Below.trans HBEL5.out (hcg6.below (fun b hb => by rw [hb]; exact hbk6.bg) (Below.size HBEL5.out))⟩
          clear hbk6 hcg6
          go_wp2
          go_ret
          exact ⟨rfl, _, _, _, HFIN.out, by omega⟩
        · have HFIN : Hid (Bk W X kb N d M nx (c + 1)) := ⟨⟨p, g, m, DV, gm, cap, V, DK.more HDS.out (by omega) (by omega), HFT.out, HBK.out⟩, HREL.out, HBEL.out⟩
          go_enter Try.func27, Try.ntmps27
          go_wp2_with fail
          rw [← hX, ← hL]
          clear hX hL
          go_wp2
          go_ret
          exact ⟨rfl, _, _, _, HFIN.out, by omega⟩
end Go.Proofs.Ytgdkiejlggiakab
