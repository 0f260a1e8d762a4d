import Derived.Test.YtekfolppahnpoaaDCrash
import Derived.Test.YtekfolppahnpoaaDNilC
namespace Go.Proofs.Ytekfolppahnpoaa
set_option linter.unusedVariables false
set_option linter.unusedSimpArgs false
open Go.RowKit Go.Maps Go.Sort
/-- what a list of numbers has -/
def Ints (w : World) (a : Option Addr) (xs : List Int) : Prop := ∀ j (hj : j < xs.length), ∃ b o, a = some ⟨b, o, none⟩ ∧ w.cell? ⟨b, o + j, none⟩ = some (.int .i64 xs[j])
theorem Ints.chg {w w' : World} {a : Option Addr} {xs : List Int} {F : Nat → Prop} (h : Ints w a xs) (hc : Chg F w w') (hne : ∀ q, a = some q → ¬ F q.block) : Ints w' a xs := by
  intro j hj
  obtain ⟨b, o, rfl, hcc⟩ := h j hj
  refine ⟨b, o, rfl, ?_⟩
  rw [← hcc]
  exact World.cell?_of_block (hc.block b (World.block_lt_of_cell? w _ hcc) (hne _ rfl))
set_option maxRecDepth 20000 in
set_option maxHeartbeats 800000 in
theorem crash_t (p g m : Nat) (S : List Sec) (C : Nat → List (List UInt8)) (V : Nat → Value) (off : Bool) (fuse : Int) (n : Nat) (ca : Option Addr) (cc : Nat) (chs : List Int) (w : World) (h : DK w p g m S C V off fuse n) (hch : Ints w ca chs) (hne : 0 < chs.length → ∀ q, ca = some q → q.block ≠ p ∧ q.block ≠ g ∧ q.block ≠ m) :
    Calls Try.prog 20 #[.pointer (some ⟨p, 0, none⟩), .slice ca chs.length cc] w fun e w' => e = .returned (.tuple #[]) ∧ DK w' p g m (crashed S C chs) (fun _ => []) (fun _ => nilS) false (-1) 0 ∧ Chg (fun b => b = p ∨ b = g ∨ b = m) w w' := by
  have h0 : w.cell? ⟨p, 0, none⟩ = some (.slice (some ⟨g, 0, none⟩) S.length S.length) := by rw [cell_of_row _ _ 0 _ _ _ h.hp]; rfl
  have hpos : 0 < S.length := h.one
  have HDT : Hid _ := dirty_t p g m S C V off fuse n w h
  have HD : Hid _ := h
  have HCH : Hid _ := hch
  have HNE : Hid _ := hne
  clear h hch hne
  go_enter Try.func20, Try.ntmps20
  go_wp2_with (first
    | (go_at_call 21; refine (made_t p _ _ _ _ h0).mono ?_; rintro e w1 ⟨rfl, hq⟩; have hq := hq.symm; subst hq; rw [decide_eq_true hpos])
    | (go_at_call 10; refine Calls.mono HDT.out ?_; rintro e w2 ⟨v, u, rfl, hown2, -, -, hb2⟩
       have hD2 : DK w2 p g m S C V off fuse n := DK.below HD.out hb2
       obtain ⟨D, hDo, hDa, hDk⟩ := hD2.cache.own
       have hpm : w2.cell? ⟨p, 1, none⟩ = some (.map (some m)) := (by rw [cell_of_row _ _ 1 _ _ _ hD2.hp]; rfl))
    | (at_range; refine wpList_range_own _ rfl _ 48 rfl 3 58 keyI Try.underlying48 selfR m n D rfl hDo ?_; intro w3 hrg3 hg3 hs3))
  go_frame
  have hD3 : DK w3 p g m S C V off fuse n := hD2.kept (Chg.of_grown (F := fun _ => False) hg3 (fun b hb => by cases hb)) (fun _ _ hf => hf)
  have hltw : ∀ b, foot p g m V b → b < w.heap.size := fun b hb => DK.lt HD.out hb
  have hc3 : Chg (fun b => b = p ∨ b = g ∨ b = m) w w3 := (Chg.of_below (F := fun b => b = p ∨ b = g ∨ b = m) hb2).trans (Chg.of_grown (F := fun _ => False) hg3 (fun b hb => by cases hb)) (fun _ hf => hf.elim)
  have hs2 := hb2.size
  have hst : crP S C chs (Maps.has D) = S := crP_start S C chs _ (fun k hk hc => has_true_of_atKey (hDa k hc))
  obtain ⟨R, hR⟩ : ∃ R : Nat, R = w2.heap.size := ⟨_, rfl⟩
  have hvR : v.ownBlock ≠ some R := fun e => by have := (World.ownsRow.lt hown2 R e).2; omega
  have hvg : v.ownBlock ≠ some g := fun e => by have := (World.ownsRow.lt hown2 g e).1; have := hltw g (.inr (.inl rfl)); omega
  have hown3 : OwnI w3 w.heap.size v (dirtyL S.length C) := hown2.grown hg3 (by cases h9 : v.ownBlock <;> simp)
  rw [← hR] at hrg3 ⊢
  have hRw : w.heap.size ≤ R := by omega
  have hlt2 : ∀ b, foot p g m V b → b < R := fun b hb => Nat.lt_of_lt_of_le (hltw b hb) hRw
  have HDK : Hid _ := hDk
  have HDA : Hid _ := hDa
  have hmost := hD2.most
  have hDLs : (dirtyL S.length C).length ≤ 1099511627776 := by
    have h9 : (dirtyL S.length C).length ≤ S.length := by
      unfold dirtyL dirtyN
      rw [List.length_map]
      exact Nat.le_trans (List.length_filter_le _ _) (by simp)
    omega
  clear hpm hDo hDa hDk hD2 hR hs3 hown2 hg3 hb2 hs2 HDT
  go_loopw [6, 7, 8, 9] (fun _ _ _ _ wr => ∃ (left : Lit → Bool) (cnt : Nat), wr.ranges Try.prog 3 selfR m R n D left cnt ∧ DK wr p g m (crP S C chs left) C V off fuse n ∧ OwnI wr w.heap.size v (dirtyL S.length C) ∧ Chg (fun b => b = p ∨ b = g ∨ b = m) w wr) (fun _ _ _ _ wr => wr.rangeLeft m R)
  case atStart => exact ⟨_, _, hrg3, by rw [hst]; exact hD3, hown3, hc3⟩
  case round =>
    obtain ⟨left, cnt, hrg, hDw, hownw, hcw⟩ := hrel
    clear hrg3 hD3 hc3 hst hown3
    go_wp2_with (first
      | (at_next; refine wpList_next_ranges _ rfl _ rfl 3 keyI selfR (Value.int .i64) (fun v : Value => v) (fun key kl hkey => by obtain ⟨x, rfl, _⟩ := Maps.keyOf_int_inv Try.underlying3 hkey; exact ⟨x, rfl⟩) (fun v y _ => ⟨v, rfl⟩) m R n D left cnt rfl hrg ?_ ?_))
    · intro _ hl0
      rw [crP_end S C chs left hl0] at hDw
      obtain ⟨es, cl, hes⟩ := hDw.cache.map_at
      have hclr := run_clear hes
      obtain ⟨hm4, hc4⟩ := setBlock_chg hes
      have hpm : wr.cell? ⟨p, 1, none⟩ = some (.map (some m)) := by rw [cell_of_row _ _ 1 _ _ _ hDw.hp]; rfl
      obtain ⟨w4, hw4⟩ : ∃ w4 : World, w4 = ChangeMaps.setBlock wr m (.map #[] cl) := ⟨_, rfl⟩
      rw [← hw4] at hm4 hc4
      have hclr' : ∀ ty, (Builtin.clear_ #[48] ty #[.map (some m)]).run Try.prog wr = .ok (.tuple #[]) w4 := by rw [hw4]; exact hclr
      have hD4 := hDw.cleared hm4 hc4
      have c2 : w4.cell? ⟨p, 2, none⟩ = some (.bool off) := by rw [cell_of_row _ _ 2 _ _ _ hD4.hp]; rfl
      have c3 : w4.cell? ⟨p, 3, none⟩ = some (.int .i64 fuse) := by rw [cell_of_row _ _ 3 _ _ _ hD4.hp]; rfl
      have f2 := frozen_of_row w4 p 2 _ _ hD4.hp
      have f3 := frozen_of_row w4 p 3 _ _ hD4.hp
      have HD4 : Hid _ := hD4
      clear hw4 hclr hes hD4
      go_wp2
      have h1 := (heap_set4 (DK.hp HD4.out) (.bool false)).1
      have h2 := (heap_set4 h1 (.int .i64 (-1))).2
      have hg5 := (gset1 w4 p 2 (.bool false)).trans' (gset1 (w4.setCell ⟨p, 2, none⟩ (.bool false)) p 3 (.int .i64 (-1)))
      have hcf := (hcw.trans hc4 (fun k hk => .inl (.inr (.inr hk)))).trans (Chg.of_grown (F := fun b => b = p) hg5 (fun b hb => by cases hb; rfl)) (fun k hk => .inl (.inl hk))
      have hDf := DK.begun HD4.out h2 hg5 (by decide)
      go_end0
      exact ⟨rfl, hDf, hcf⟩
    · intro x c kl yd yp w4 cnt4 hkey hlk hv hat hrg4 hltc hg4 hs4 hen
      obtain ⟨i, hiN, hkl, hci⟩ := HDK.out kl (has_true_of_atKey hat)
      have hxi : x = (i : Int) := by
        obtain ⟨x', e1, e2, _⟩ := Maps.keyOf_int_inv Try.underlying3 hkey
        cases e1
        rw [e2] at hkl
        exact (Lit.int.inj hkl).2
      subst hxi
      subst hkl
      have hcV : c = V i := by
        have h9 : (DataW.held c : DataW Value) = yd := congrArg Prod.fst (Option.some.inj hv)
        have h10 := (hat (.held c)).symm.trans (HDA.out i hci (.held c))
        rw [← h9] at h10
        cases h10
        rfl
      subst hcV
      have hD4 : DK w4 p g m (crP S C chs left) C V off fuse n := hDw.kept (Chg.of_grown (F := fun b => b = R) hg4 (fun b hb => by cases hb; rfl)) (fun b hb e => by subst e; exact Nat.lt_irrefl _ (hlt2 b hb))
      have hown4 : OwnI w4 w.heap.size v (dirtyL S.length C) := hownw.grown hg4 (.inr hvR)
      have hc4 : Chg (fun b => b = p ∨ b = g ∨ b = m) w w4 := hcw.trans (Chg.of_grown (F := fun b => b = R) hg4 (fun b hb => by cases hb; rfl)) (fun k hk => .inr (by rw [hk]; exact hRw))
      have HSE : Hid _ := search_t w.heap.size v _ (i : Int) w4 hown4 (dirtyL_strict _ _) hDLs
      obtain ⟨P, hP⟩ : ∃ P : Nat, P = posN S.length C i := ⟨_, rfl⟩
      have hP' : (dirtyL S.length C).countP (· < (i : Int)) = P := by rw [hP]; rfl
      rw [hP'] at HSE
      have hlen := crP_len S C chs left
      have hi' : i < (crP S C chs left).length := by rw [hlen]; exact hiN
      obtain ⟨a4, c4, hV4, hL4⟩ := hD4.looks i hi'
      rw [hV4] at hen ⊢
      have HC4 : Hid _ := hc4
      have HD4 : Hid _ := hD4
      have HO4 : Hid _ := hown4
      have HL4 : Hid _ := hL4
      have HP : Hid _ := hP
      clear hP hP' hc4 hD4 hown4 hL4 hcw hDw hownw
      by_cases hlt : P < chs.length
      · obtain ⟨cb, co, rfl, hcell⟩ := HCH.out P hlt
        obtain ⟨hn1, hn2, hn3⟩ := HNE.out (by omega) _ rfl
        go_wp2_with (go_at_call 30; refine Calls.mono HSE.out ?_; rintro e w5 ⟨⟨b5, rfl⟩, hb5⟩)
        have hD5 := DK.below HD4.out hb5
        have hp0 : w5.cell? ⟨p, 0, none⟩ = some (.slice (some ⟨g, 0, none⟩) S.length S.length) := by rw [cell_of_row _ _ 0 _ _ _ hD5.hp, hlen]; rfl
        have hpl : p < w5.heap.size := World.block_lt_of_cell? w5 _ hp0
        have hcl0 : cb < w.heap.size := World.block_lt_of_cell? w _ hcell
        have hcl4 : w4.cell? ⟨cb, co + P, none⟩ = some (.int .i64 chs[P]) := by rw [← hcell]; exact World.cell?_of_block (Chg.block HC4.out cb hcl0 (fun e => e.elim hn1 (fun e => e.elim hn2 hn3)))
        have hcl5 : w5.cell? ⟨cb, co + P, none⟩ = some (.int .i64 chs[P]) := (hb5.cell (World.block_lt_of_cell? w4 _ hcl4)).trans hcl4
        have hcl : cb < w5.heap.size := World.block_lt_of_cell? w5 _ hcl5
        obtain ⟨y, hy⟩ : ∃ y : Int, y = chs[P] := ⟨_, rfl⟩
        rw [← hy] at hcl5
        have hyt : told S.length C chs i = y := by rw [hy]; unfold told; rw [← HP.out, List.getD_eq_getElem?_getD, List.getElem?_eq_getElem hlt]; rfl
        have hfit0 := hD5.fit _ (List.getElem_mem hi')
        obtain ⟨Y0, hY0⟩ : ∃ Y : List Value, Y = (crP S C chs left)[i].cells := ⟨_, rfl⟩
        obtain ⟨Y, hY⟩ : ∃ Y : List Value, Y = (afterS (crP S C chs left)[i] y (C i)).cells := ⟨_, rfl⟩
        have hfit : (afterS (crP S C chs left)[i] y (C i)).fit := afterS_fit hfit0 y (hD5.cache.txt i)
        have HYl : Hid (Y.length = 129) := by unfold Hid; rw [hY]; exact Sec.cells_len hfit.1
        have HYs : Hid (Y.toArray.size = 129) := by unfold Hid; rw [List.size_toArray]; exact HYl.out
        have HY0l : Hid (Y0.length = 129) := by unfold Hid; rw [hY0]; exact Sec.cells_len hfit0.1
        have HY1 : Hid (∀ v ∈ Y, v.oneCell' = true) := by unfold Hid; rw [hY]; exact secV_one _ _
        have HIs : Hid ((Try.prog.info? 63).map (·.size) = some 129) := (zero_of_info info_sect).2
        have HL61 : Hid (∀ u, Below w5.heap.size w5 u → (Instr.loadAt 63 (.pointer (some ⟨g, i * 129, none⟩))).run Try.prog u = .ok (.agg Y0.toArray) u) := fun u hu =>
          run_loadAt_mid u g _ _ Y0 _ (by rw [hY0]; exact rangeAt_below (hD5.secAt.row i hi') hu) Try.underlying63 rfl (by rw [(zero_of_info info_sect).2, HY0l.out])
        have HAF : Hid (∀ u, Below w5.heap.size w5 u → Calls Try.prog 31 #[.agg Y0.toArray, .int .i64 y, .slice a4 (C i).length c4] u fun e w' => e = .returned (.agg Y.toArray) ∧ Below u.heap.size u w') := by
          intro u hu
          rw [hY, hY0]
          exact after_t _ y a4 c4 (C i) u hfit0.1 (hD5.cache.txt i) (Looks.few HL4.out) (((Looks.lie HL4.out).below hb5).below hu)
        have hpg := hD5.ne.1
        have hi0 : (0 : Int) ≤ (i : Int) := by omega
        have hi1 : (i : Int) < (S.length : Int) := by omega
        have hP0 : (0 : Int) ≤ (P : Int) := by omega
        have hP1 : (P : Int) < (chs.length : Int) := by omega
        have hcg : cb ≠ g := hn2
        have HD5 : Hid _ := hD5
        have HY : Hid _ := hY
        have HYT : Hid _ := hyt
        have HFit : Hid _ := hfit
        clear hY hY0 hfit hfit0 hD5 hy hyt hcell hcl4 hn1 hn2 hn3
        refine wp_region_noPanic ?_
        refine wp_region_held_drew (S := (fun u => u.cell? ⟨p, 0, none⟩ = some (.slice (some ⟨g, 0, none⟩) S.length S.length) ∧ u.cell? ⟨cb, co + P, none⟩ = some (.int .i64 y))) (by kernel_rfl) (by first | exact ⟨hp0, hcl5⟩ | exact ⟨(hb6.cell (p := ⟨p, 0, none⟩) hpl).trans hp0, (hb6.cell (p := ⟨cb, co + P, none⟩) hcl).trans hcl5⟩ | exact ⟨(setCells_grown g _ _ _).cell ((hb6.cell (p := ⟨p, 0, none⟩) hpl).trans hp0) (by simpa using hpg), (setCells_grown g _ _ _).cell ((hb6.cell (p := ⟨cb, co + P, none⟩) hcl).trans hcl5) (by simpa using hcg)⟩) (fun hHeld => ?_)
        refine take_at (i := 0) 38 (v := ?_) rfl rfl (by kernel_rfl) (by kernel_rfl) (by kernel_rfl) (fun _ _ _ h => h) (by rfl) ?_ hHeld ?_
        rotate_left
        · (intro w hSw; (try dsimp only at hSw); go_simp; try with_reducible rfl)
        simp only [Act.put, List.setIfInBounds_toArray, List.set_cons_zero, List.set_cons_succ]
        refine take_at (i := 1) 39 (v := ?_) rfl rfl (by kernel_rfl) (by kernel_rfl) (by kernel_rfl) (fun _ _ _ h => h) (by rfl) ?_ hHeld ?_
        rotate_left
        · (intro w hSw; (try dsimp only at hSw); go_simp; try with_reducible rfl)
        simp only [Act.put, List.setIfInBounds_toArray, List.set_cons_zero, List.set_cons_succ]
        refine take_at (i := 2) 40 (v := ?_) rfl rfl (by kernel_rfl) (by kernel_rfl) (by kernel_rfl) (fun _ _ _ h => h) (by rfl) ?_ hHeld ?_
        rotate_left
        · (intro w hSw; (try dsimp only at hSw); go_simp; try with_reducible rfl)
        simp only [Act.put, List.setIfInBounds_toArray, List.set_cons_zero, List.set_cons_succ]
        refine take_at (i := 3) 41 (v := ?_) rfl rfl (by kernel_rfl) (by kernel_rfl) (by kernel_rfl) (fun _ _ _ h => h) (by rfl) ?_ hHeld ?_
        rotate_left
        · (intro w hSw; obtain ⟨hs1, hs2⟩ := hSw; (try dsimp only at hs1 hs2); go_simp; try with_reducible rfl)
        simp only [Act.put, List.setIfInBounds_toArray, List.set_cons_zero, List.set_cons_succ]
        refine take_at (i := 4) 42 (v := ?_) rfl rfl (by kernel_rfl) (by kernel_rfl) (by kernel_rfl) (fun _ _ _ h => h) (by rfl) ?_ hHeld ?_
        rotate_left
        · (intro w hSw; (try dsimp only at hSw); go_simp; try with_reducible rfl)
        simp only [Act.put, List.setIfInBounds_toArray, List.set_cons_zero, List.set_cons_succ]
        refine take_at (i := 5) 43 (v := ?_) rfl rfl (by kernel_rfl) (by kernel_rfl) (by kernel_rfl) (fun _ _ _ h => h) (by rfl) ?_ hHeld ?_
        rotate_left
        · (intro w hSw; (try dsimp only at hSw); go_simp; try with_reducible rfl)
        simp only [Act.put, List.setIfInBounds_toArray, List.set_cons_zero, List.set_cons_succ]
        refine take_at (i := 6) 44 (v := ?_) rfl rfl (by kernel_rfl) (by kernel_rfl) (by kernel_rfl) (fun _ _ _ h => h) (by rfl) ?_ hHeld ?_
        rotate_left
        · (intro w hSw; (try dsimp only at hSw); go_simp; try with_reducible rfl)
        simp only [Act.put, List.setIfInBounds_toArray, List.set_cons_zero, List.set_cons_succ]
        refine take_at (i := 7) 45 (v := ?_) rfl rfl (by kernel_rfl) (by kernel_rfl) (by kernel_rfl) (fun _ _ _ h => h) (by rfl) ?_ hHeld ?_
        rotate_left
        · (intro w hSw; (try dsimp only at hSw); go_simp; try with_reducible rfl)
        simp only [Act.put, List.setIfInBounds_toArray, List.set_cons_zero, List.set_cons_succ]
        refine take_at (i := 8) 46 (v := ?_) rfl rfl (by kernel_rfl) (by kernel_rfl) (by kernel_rfl) (fun _ _ _ h => h) (by rfl) ?_ hHeld ?_
        rotate_left
        · (intro w hSw; obtain ⟨hs1, hs2⟩ := hSw; (try dsimp only at hs1 hs2); go_simp; try with_reducible rfl)
        simp only [Act.put, List.setIfInBounds_toArray, List.set_cons_zero, List.set_cons_succ]
        refine take_at (i := 9) 47 (v := ?_) rfl rfl (by kernel_rfl) (by kernel_rfl) (by kernel_rfl) (fun _ _ _ h => h) (by rfl) ?_ hHeld ?_
        rotate_left
        · (intro w hSw; (try dsimp only at hSw); go_simp; try with_reducible rfl)
        simp only [Act.put, List.setIfInBounds_toArray, List.set_cons_zero, List.set_cons_succ]
        refine take_at (i := 10) 48 (v := ?_) rfl rfl (by kernel_rfl) (by kernel_rfl) (by kernel_rfl) (fun _ _ _ h => h) (by rfl) ?_ hHeld ?_
        rotate_left
        · (intro w hSw; (try dsimp only at hSw); go_simp; try with_reducible rfl)
        simp only [Act.put, List.setIfInBounds_toArray, List.set_cons_zero, List.set_cons_succ]
        refine take_at (i := 12) 50 (v := ?_) rfl rfl (by kernel_rfl) (by kernel_rfl) (by kernel_rfl) (fun _ _ _ h => h) (by rfl) ?_ hHeld ?_
        rotate_left
        · (intro w hSw; (try dsimp only at hSw); go_simp; try with_reducible rfl)
        simp only [Act.put, List.setIfInBounds_toArray, List.set_cons_zero, List.set_cons_succ]
        refine take_at (i := 13) 51 (v := ?_) rfl rfl (by kernel_rfl) (by kernel_rfl) (by kernel_rfl) (fun _ _ _ h => h) (by rfl) ?_ hHeld ?_
        rotate_left
        · (intro w hSw; (try dsimp only at hSw); go_simp; try with_reducible rfl)
        simp only [Act.put, List.setIfInBounds_toArray, List.set_cons_zero, List.set_cons_succ]
        refine take_at (i := 14) 52 (v := ?_) rfl rfl (by kernel_rfl) (by kernel_rfl) (by kernel_rfl) (fun _ _ _ h => h) (by rfl) ?_ hHeld ?_
        rotate_left
        · (intro w hSw; (try dsimp only at hSw); go_simp; try with_reducible rfl)
        simp only [Act.put, List.setIfInBounds_toArray, List.set_cons_zero, List.set_cons_succ]
        refine take_at (i := 15) 53 (v := ?_) rfl rfl (by kernel_rfl) (by kernel_rfl) (by kernel_rfl) (fun _ _ _ h => h) (by rfl) ?_ hHeld ?_
        rotate_left
        · (intro w hSw; obtain ⟨hs1, hs2⟩ := hSw; (try dsimp only at hs1 hs2); go_simp; try with_reducible rfl)
        simp only [Act.put, List.setIfInBounds_toArray, List.set_cons_zero, List.set_cons_succ]
        refine take_at (i := 16) 54 (v := ?_) rfl rfl (by kernel_rfl) (by kernel_rfl) (by kernel_rfl) (fun _ _ _ h => h) (by rfl) ?_ hHeld ?_
        rotate_left
        · (intro w hSw; (try dsimp only at hSw); go_simp; try with_reducible rfl)
        simp only [Act.put, List.setIfInBounds_toArray, List.set_cons_zero, List.set_cons_succ]
        refine val_at (i := 11) 49 (v := .agg Y0.toArray) rfl rfl (by kernel_rfl) (by rfl) ?_ ?_ ?_
        · (refine exec_load (by rfl) ?_; exact HL61.out _ (Below.refl _ _).drew)
        · (first | exact ⟨hp0, hcl5⟩ | exact ⟨(hb6.cell (p := ⟨p, 0, none⟩) hpl).trans hp0, (hb6.cell (p := ⟨cb, co + P, none⟩) hcl).trans hcl5⟩ | exact ⟨(setCells_grown g _ _ _).cell ((hb6.cell (p := ⟨p, 0, none⟩) hpl).trans hp0) (by simpa using hpg), (setCells_grown g _ _ _).cell ((hb6.cell (p := ⟨cb, co + P, none⟩) hcl).trans hcl5) (by simpa using hcg)⟩)
        intro hHeld2
        clear hHeld
        have hHeld := hHeld2
        clear hHeld2
        simp only [Act.put, List.setIfInBounds_toArray, List.set_cons_zero, List.set_cons_succ]
        refine run_at (i := 17) rfl (by kernel_rfl) (by rfl) (fun K hK => ?_)
        simp only [List.getElem_toArray, List.getElem_cons_zero, List.getElem_cons_succ]
        go_simp
        first | (go_at_call 31; refine Calls.mono (HAF.out _ (Below.refl _ _).drew) ?_; rintro e w6 ⟨rfl, hb6'⟩; have hb6 : Below w5.heap.size w5 w6 := below_next (Below.refl _ _).drew hb6')
        go_wp2_with fail
        refine hK.out _ _ (by first | exact ⟨hp0, hcl5⟩ | exact ⟨(hb6.cell (p := ⟨p, 0, none⟩) hpl).trans hp0, (hb6.cell (p := ⟨cb, co + P, none⟩) hcl).trans hcl5⟩ | exact ⟨(setCells_grown g _ _ _).cell ((hb6.cell (p := ⟨p, 0, none⟩) hpl).trans hp0) (by simpa using hpg), (setCells_grown g _ _ _).cell ((hb6.cell (p := ⟨cb, co + P, none⟩) hcl).trans hcl5) (by simpa using hcg)⟩) ?_
        clear hK K
        intro hHeld2
        clear hHeld
        have hHeld := hHeld2
        clear hHeld2
        try simp only [Act.put, List.setIfInBounds_toArray, List.set_cons_zero, List.set_cons_succ]
        refine take_at (i := 18) 56 (v := ?_) rfl rfl (by kernel_rfl) (by kernel_rfl) (by kernel_rfl) (fun _ _ _ h => h) (by rfl) ?_ hHeld ?_
        rotate_left
        · (intro w hSw; (try dsimp only at hSw); go_simp; try with_reducible rfl)
        simp only [Act.put, List.setIfInBounds_toArray, List.set_cons_zero, List.set_cons_succ]
        refine run_at (i := 19) rfl (by kernel_rfl) (by rfl) (fun K hK => ?_)
        simp only [List.getElem_toArray, List.getElem_cons_zero, List.getElem_cons_succ]
        refine wp_store_mid 63 _ _ rfl g (i * 129) Y.toArray rfl rfl (by rw [HYs.out]; exact secs_there (fit_ok (DK.below HD5.out hb6).fit) (DK.below HD5.out hb6).hg i hi') (by rw [HIs.out, HYs.out]) (all_oneCell_toArray HY1.out) ?_
        refine hK.out _ _ (by first | exact ⟨hp0, hcl5⟩ | exact ⟨(hb6.cell (p := ⟨p, 0, none⟩) hpl).trans hp0, (hb6.cell (p := ⟨cb, co + P, none⟩) hcl).trans hcl5⟩ | exact ⟨(setCells_grown g _ _ _).cell ((hb6.cell (p := ⟨p, 0, none⟩) hpl).trans hp0) (by simpa using hpg), (setCells_grown g _ _ _).cell ((hb6.cell (p := ⟨cb, co + P, none⟩) hcl).trans hcl5) (by simpa using hcg)⟩) ?_
        clear hK K
        intro hHeld2
        clear hHeld
        have hHeld := hHeld2
        clear hHeld2
        try simp only [Act.put, List.setIfInBounds_toArray, List.set_cons_zero, List.set_cons_succ]
        refine wpAnyH_done (by kernel_rfl) ?_ _
        refine NoPanic.normal ?_
        go_wp2
        go_roundw
        case rel =>
          have hD6 := DK.below HD5.out hb6
          have hD7 := hD6.setSec i hi' _ HFit.out
          rw [← HYT.out, crP_step S C chs left i hi' hmost hlk hci, HYT.out, ← HY.out] at hD7
          have hRg : R ≠ g := by have := hlt2 g (.inr (.inl rfl)); omega
          have hmg : m ≠ g := fun e => hD6.ne.2.2 e.symm
          have hb46 : Below w4.heap.size w4 w6 := below_next hb5 hb6
          refine ⟨_, cnt4, (hrg4.kept (gr_below (World.grownBy.refl w4 none) hb46) (by simp) (by simp)).kept (setCells_grown g Y (i * 129) w6) (by simpa using hmg) (by simpa using hRg), hD7, OwnI.grown (OwnI.below HO4.out hb46) (setCells_grown g Y (i * 129) w6) (.inr hvg), ?_⟩
          refine (Chg.trans HC4.out (Chg.of_below (F := fun _ => False) hb46) (fun _ hf => hf.elim)).trans (Chg.of_grown (F := fun b => b = g) (setCells_grown g Y (i * 129) w6) (fun b hb => by cases hb; rfl)) (fun k hk => .inl (.inr (.inl hk)))
        case measure =>
          have hb46 : Below w4.heap.size w4 w6 := below_next hb5 hb6
          have h6 := (hrg4.kept (gr_below (World.grownBy.refl w4 none) hb46) (by simp) (by simp)).kept (setCells_grown g Y (i * 129) w6) (by have := (DK.below HD5.out hb6).ne.2.2; simpa using this.symm) (by have := hlt2 g (.inr (.inl rfl)); simp; omega)
          rw [h6.left_eq, hrg.left_eq]
          exact hltc
      · go_wp2_with (go_at_call 30; refine Calls.mono HSE.out ?_; rintro e w5 ⟨⟨b5, rfl⟩, hb5⟩)
        refine ⟨⟨_, cnt4, hrg4.kept (gr_below (World.grownBy.refl w4 none) hb5) (by simp) (by simp), by rw [← crP_skip S C chs left i hiN hmost hlk (by rw [← HP.out]; omega)]; exact DK.below HD4.out hb5, OwnI.below HO4.out hb5, Chg.trans HC4.out (Chg.of_below (F := fun _ => False) hb5) (fun _ hf => hf.elim)⟩, ?_⟩
        have h6 := hrg4.kept (gr_below (World.grownBy.refl w4 none) hb5) (by simp) (by simp)
        rw [h6.left_eq, hrg.left_eq]
        exact hltc
end Go.Proofs.Ytekfolppahnpoaa
