import Derived.Test.YtibepnilhmbpeaaDoorSQe
import Derived.Test.YtibepnilhmbpeaaDoorClone
namespace Go.Proofs.YtibepnilhmbpeaaDoor
set_option linter.unusedVariables false
set_option linter.unusedSimpArgs false
open Go.RowKit
/-- the label of piece i -/
def ptQ (l : Lb) (i : Nat) : Lb := ⟨l.n + i, l.e, l.len, i⟩
/-- the first fault of the pieces 1 to k -/
def ptsE (d : Dst) (A Z : Nat) (l : Lb) : Nat → Int
  | 0 => 0
  | k + 1 => if ptsE d A Z l k ≠ 0 then ptsE d A Z l k else ptE d A Z (ptQ l (k + 1))
/-- the bytes of the pieces 0 to k -/
def ptsX (d : Dst) (A Z : Nat) (l : Lb) : Nat → List UInt8
  | 0 => pcX d A Z l.n
  | k + 1 => ptsX d A Z l k ++ pcX d A Z (l.n + (k + 1))
theorem ptsE_fail {d : Dst} {A Z : Nat} {l : Lb} {k : Nat} (h : ptsE d A Z l k ≠ 0) : ∀ j, k ≤ j → ptsE d A Z l j = ptsE d A Z l k
  | 0, hj => by
    obtain rfl : k = 0 := by omega
    rfl
  | j + 1, hj => by
    by_cases e : k = j + 1
    · rw [e]
    · have ih := ptsE_fail h j (by omega)
      show (if ptsE d A Z l j ≠ 0 then ptsE d A Z l j else _) = _
      rw [ih, if_pos h]
theorem ptsE_next {d : Dst} {A Z : Nat} {l : Lb} {k : Nat} (h : ptsE d A Z l k = 0) : ptsE d A Z l (k + 1) = ptE d A Z (ptQ l (k + 1)) := if_neg (fun h9 => h9 h)
theorem pcX_len (d : Dst) (A Z n : Nat) : (pcX d A Z n).length ≤ 104 := by
  unfold pcX pcDt
  rw [List.length_take]
  have := (lbRd (rdD d (secN A Z n)).text).w_le
  omega
theorem ptsX_len (d : Dst) (A Z : Nat) (l : Lb) : ∀ k, (ptsX d A Z l k).length ≤ (k + 1) * 104
  | 0 => by
    show (pcX d A Z l.n).length ≤ _
    have := pcX_len d A Z l.n
    omega
  | k + 1 => by
    show (ptsX d A Z l k ++ _).length ≤ _
    rw [List.length_append]
    have := ptsX_len d A Z l k
    have := pcX_len d A Z (l.n + (k + 1))
    omega
/-- what readRecord answers -/
def rcE (d : Dst) (A Z n hi : Nat) : Int := if frE d A Z n 0 hi ≠ 0 then frE d A Z n 0 hi else ptsE d A Z (pcL d A Z n) (needS (pcL d A Z n).len - 1)
def rcX (d : Dst) (A Z n : Nat) : List UInt8 := ptsX d A Z (pcL d A Z n) (needS (pcL d A Z n).len - 1)
structure RcOut (d : Dst) (A Z n hi : Nat) (w : World) (e : Ending) (w' : World) : Prop where
  ok : rcE d A Z n hi = 0 → ∃ v, e = .returned (.tuple #[v, .int .i64 0]) ∧ Own w' w.heap.size v (rcX d A Z n)
  no : rcE d A Z n hi ≠ 0 → e = .returned (.tuple #[.slice none 0 0, .int .i64 (rcE d A Z n hi)])
  bel : Below w.heap.size w w'
theorem needS_le (L : Nat) : needS L ≤ 79 := by unfold needS; split <;> omega
/-- what a front says -/
theorem frE_zero {d : Dst} {A Z n lo hi : Nat} (h : frE d A Z n lo hi = 0) : pcE d A Z n = 0 ∧ (pcL d A Z n).i = 0 ∧ (pcL d A Z n).n = n ∧ lo ≤ (pcL d A Z n).e ∧ (pcL d A Z n).e ≤ hi ∧ 1 ≤ needS (pcL d A Z n).len := by
  unfold frE at h
  split at h
  · rename_i h1
    exact absurd h h1
  · rename_i h1
    have h2 : pcE d A Z n = 0 := by
      apply Classical.byContradiction
      exact h1
    split at h
    · cases h
    · rename_i h3
      have h4 : pcE d A Z n = 0 := h2
      unfold pcE at h4
      split at h4
      · cases h4
      · split at h4
        · rename_i h5
          have h6 : (pcL d A Z n).i = 0 := by
            apply Classical.byContradiction
            intro h9
            exact h3 (.inl h9)
          refine ⟨h2, h6, h5.2, ?_, ?_, ?_⟩
          · apply Nat.le_of_not_lt
            intro h9
            exact h3 (.inr (.inl h9))
          · apply Nat.le_of_not_lt
            intro h9
            exact h3 (.inr (.inr h9))
          · have h7 := h5.1
            unfold pcOk at h7
            rw [Bool.and_eq_true, decide_eq_true_eq] at h7
            have h8 : (pcL d A Z n).i < needS (pcL d A Z n).len := h7.1
            omega
        · cases h4
theorem pcL_lt (d : Dst) (A Z n : Nat) : (pcL d A Z n).n < 281474976710656 ∧ (pcL d A Z n).e < 281474976710656 ∧ (pcL d A Z n).len < 65536 := by
  refine ⟨?_, ?_, hdN_lt2 _ _⟩
  · unfold pcL lbRd hdN
    have h9 := lowS_lt ((((rdD d (secN A Z n)).text).drop 4).take 6)
    refine Nat.lt_of_lt_of_le h9 ?_
    refine Nat.le_trans (Nat.pow_le_pow_right (by decide) (by rw [List.length_take]; exact Nat.min_le_left _ _)) (by decide)
  · unfold pcL lbRd hdN
    have h9 := lowS_lt ((((rdD d (secN A Z n)).text).drop 10).take 6)
    refine Nat.lt_of_lt_of_le h9 ?_
    refine Nat.le_trans (Nat.pow_le_pow_right (by decide) (by rw [List.length_take]; exact Nat.min_le_left _ _)) (by decide)
theorem lbLoad {u : World} {g N E L I : Nat} {v : Value} {fr : Nat × Nat} (h : u.heap[g]? = some (.cells #[.int .u64 (N : Int), .int .u64 (E : Int), .int .i64 (L : Int), .int .i64 (I : Int), v] tPc fr)) : (Instr.loadAt tLb (.pointer (some ⟨g, 0, none⟩))).run Tryd.prog u = .ok (lbV N E L I) u := by
  refine run_loadAt_mid u _ _ _ [.int .u64 (N : Int), .int .u64 (E : Int), .int .i64 (L : Int), .int .i64 (I : Int)] _ (fun q x hv => ?_) Tryd.underlying102 rfl infoLb
  rw [Nat.zero_add, cell_of_row _ _ _ _ _ _ h]
  rcases q with _ | _ | _ | _ | q
  · simp at hv; subst hv; rfl
  · simp at hv; subst hv; rfl
  · simp at hv; subst hv; rfl
  · simp at hv; subst hv; rfl
  · simp at hv
end Go.Proofs.YtibepnilhmbpeaaDoor
namespace Go.Proofs.YtibepnilhmbpeaaDoor
set_option linter.unusedVariables false
set_option linter.unusedSimpArgs false
open Go.RowKit
theorem rd_store1 {u z : World} {a : Option Addr} {X : List UInt8} {g : Nat} (h : Rd u a X) (hg : u.grownBy z (some g)) (hne : ∀ q, a = some q → q.block ≠ g) : Rd z a X :=
  Rd.chg h (Chg.of_grown (F := fun b => b = g) hg (fun b e => by cases e; rfl)) (fun q e => hne q e)
theorem rd_store3 {u z : World} {a : Option Addr} {X : List UInt8} {o : Obj} (h : Rd u a X) (hg : (u.alloc o).grownBy z (some u.heap.size)) : Rd z a X := fun hp => by
  obtain ⟨b, f, rfl, hc⟩ := h hp
  have hb := World.block_lt_of_cell? u _ (hc 0 hp)
  refine Rd.chg (Rd.below h (alS (Below.refl _ _) o)) (Chg.of_grown (F := fun b => b = u.heap.size) hg (fun b e => by cases e; rfl)) (fun q e => ?_) hp
  cases e
  show ¬ b = u.heap.size
  have hb' : b < u.heap.size := hb
  omega
set_option maxRecDepth 20000 in
set_option maxHeartbeats 6400000 in
theorem readRecord_t {w : World} {p m : Nat} {d : Dst} {F : Nat → Prop} (hd : Dsk w p d m F) (hoff : d.off = false) (A Z n hi : Nat) (hZ : 3 ≤ Z) (hAZ : A + Z ≤ d.S.length) (hn : n < 18446744073709551616) (ht : TabOk w) :
    Calls Tryd.prog 46 #[plV p A Z, .int .u64 (n : Int), .int .u64 (hi : Int)] w fun e w' => RcOut d A Z n hi w e w' := by
  have HFR : Hid (∀ u, Below w.heap.size w u → Calls Tryd.prog 60 #[plV p A Z, .int .u64 (n : Int), .int .u64 0, .int .u64 (hi : Int)] u fun e w' => PcRes (frE d A Z n 0 hi) (pcL d A Z n) (pcX d A Z n) u e w') := fun u hu => readFront_t (hd.below hu) hoff A Z n 0 hi hZ hAZ hn (ht.below hu)
  have HRQ : Hid (∀ u q, Below w.heap.size w u → q.n < 18446744073709551616 → Calls Tryd.prog 61 #[plV p A Z, lbV q.n q.e q.len q.i] u fun e w' => PcRes (ptE d A Z q) (pcL d A Z q.n) (pcX d A Z q.n) u e w') := fun u q hu hq => readPart_t (hd.below hu) hoff A Z q hZ hAZ hq (ht.below hu)
  obtain ⟨FE, hFE⟩ : ∃ FE, FE = frE d A Z n 0 hi := ⟨_, rfl⟩
  obtain ⟨l, hl⟩ : ∃ l, l = pcL d A Z n := ⟨_, rfl⟩
  obtain ⟨Y, hY⟩ : ∃ Y, Y = pcX d A Z n := ⟨_, rfl⟩
  rw [← hFE, ← hl, ← hY] at HFR
  have HRE : Hid (rcE d A Z n hi = if FE ≠ 0 then FE else ptsE d A Z l (needS l.len - 1)) := by unfold Hid rcE; rw [hFE, hl]
  have HRX : Hid (rcX d A Z n = ptsX d A Z l (needS l.len - 1)) := by unfold Hid rcX; rw [hl]
  have HFZ : Hid (FE = 0 → l.i = 0 ∧ l.n = n ∧ 1 ≤ needS l.len) := fun h => by
    obtain ⟨-, h2, h3, -, -, h4⟩ := frE_zero (hFE.symm.trans h)
    rw [← hl] at h2 h3 h4
    exact ⟨h2, h3, h4⟩
  have HLT : Hid (l.n < 281474976710656 ∧ l.len < 65536) := by unfold Hid; rw [hl]; exact ⟨(pcL_lt d A Z n).1, (pcL_lt d A Z n).2.2⟩
  have HY : Hid (Y = pcX d A Z n) := hY
  have HYL : Hid (Y.length ≤ 104) := by unfold Hid; rw [hY]; exact pcX_len _ _ _ _
  clear hd hoff ht hAZ hFE hl hY
  go_enter Tryd.func46, Tryd.ntmps46
  go_wp2_with fail
  have hb0 : Below w.heap.size w (w.alloc (.cells (plC p A Z) tPl)) := alS (Below.refl _ _) _
  have hbx : (w.alloc (.cells (plC p A Z) tPl)).heap[w.heap.size]? = some (.cells (plC p A Z) tPl (0, 0)) := heap_alloc_new w _
  generalize (w.alloc (.cells (plC p A Z) tPl)) = W0 at *
  refine Calls.mono (HFR.out _ hb0) ?_
  rintro e u1 hpo
  by_cases hE : FE = 0
  · have HLZ : Hid (l.i = 0 ∧ l.n = n ∧ 1 ≤ needS l.len) := HFZ.out hE
    obtain ⟨a, c, he, hrd, hnl, -⟩ := hpo.ok hE
    subst hE
    subst he
    have hb2 : Below W0.heap.size W0 (u1.alloc (.cells #[.int .u64 (l.n : Int), .int .u64 (l.e : Int), .int .i64 (l.len : Int), .int .i64 (l.i : Int), .slice a Y.length c] tPc)) := below_next hpo.bel (alS (Below.refl _ _) _)
    have hfx : (u1.alloc (.cells #[.int .u64 (l.n : Int), .int .u64 (l.e : Int), .int .i64 (l.len : Int), .int .i64 (l.i : Int), .slice a Y.length c] tPc)).heap[u1.heap.size]? = some (.cells #[.int .u64 (l.n : Int), .int .u64 (l.e : Int), .int .i64 (l.len : Int), .int .i64 (l.i : Int), .slice a Y.length c] tPc (0, 0)) := heap_alloc_new _ _
    have hrd2 : Rd (u1.alloc (.cells #[.int .u64 (l.n : Int), .int .u64 (l.e : Int), .int .i64 (l.len : Int), .int .i64 (l.i : Int), .slice a Y.length c] tPc)) a Y := hrd.below (alS (Below.refl _ _) _)
    obtain ⟨g0, hg0⟩ : ∃ g0, g0 = u1.heap.size := ⟨_, rfl⟩
    rw [← hg0] at hfx
    go_upto_region 4 with fail
    rw [← hg0]
    generalize (u1.alloc (.cells #[.int .u64 (l.n : Int), .int .u64 (l.e : Int), .int .i64 (l.len : Int), .int .i64 (l.i : Int), .slice a Y.length c] tPc)) = W1 at *
    have HB1 : Hid (Below w.heap.size w W1) := below_next hb0 hb2
    have HX1 : Hid (W1.heap[w.heap.size]? = some (.cells (plC p A Z) tPl (0, 0))) := below_blk hb2 hbx
    have HF1 : Hid (W1.heap[g0]? = some (.cells #[.int .u64 (l.n : Int), .int .u64 (l.e : Int), .int .i64 (l.len : Int), .int .i64 (l.i : Int), .slice a Y.length c] tPc (0, 0))) := hfx
    have HCL : Hid _ := clone_n a Y.length c Y rfl W1 hrd2 hnl (by have := HYL.out; omega)
    obtain ⟨f0, f1, f2, f3, f4⟩ := cells5 hfx
    obtain ⟨M, hM⟩ : ∃ M, M = needS l.len := ⟨_, rfl⟩
    have HNE : Hid (∀ u, Calls Tryd.prog 11 #[.int .i64 (l.len : Int)] u fun er w' => er = .returned (.int .i64 (M : Int)) ∧ w' = u) := fun u => by rw [hM]; exact need_t l.len (by have := HLT.out; omega) u
    have HM : Hid (M = needS l.len ∧ M ≤ 79 ∧ 1 ≤ M) := ⟨hM, by rw [hM]; exact needS_le _, by rw [hM]; exact HLZ.out.2.2⟩
    clear hpo hrd hrd2 hnl hb0 hbx hb2 hfx hg0 hM
    go_wp2_with fail
    refine Calls.mono HCL.out ?_
    rintro e w2 ⟨v2, he2, hown2, hb2⟩
    subst he2
    have HO2 : Hid (Own w2 W1.heap.size v2 (ptsX d A Z l 0)) := by unfold Hid; show Own w2 W1.heap.size v2 (pcX d A Z l.n); rw [HLZ.out.2.1, ← HY.out]; exact hown2
    have HB2 : Hid (Below W1.heap.size W1 w2) := hb2
    clear hown2 hb2 f0 f1 f2 f3 f4 HCL
    go_wp2
    go_loopw [10, 11] (fun v j wr => ∃ k : Nat, k + 1 ≤ M ∧ j = .int .i64 ((k + 1 : Nat) : Int) ∧ Hid (ptsE d A Z l k = 0) ∧ Own wr W1.heap.size v (ptsX d A Z l k) ∧ Below W1.heap.size W1 wr) (fun _ j _ => M - (intOf j).toNat)
    case atStart => exact ⟨0, HM.out.2.2, rfl, rfl, HO2.out, HB2.out⟩
    case round =>
      obtain ⟨k, hk, rfl, HPZ, hown, hbw⟩ := hrel
      obtain ⟨i, hik⟩ : ∃ i, i = k + 1 := ⟨_, rfl⟩
      rw [← hik]
      have HIK : Hid (i = k + 1) := hik
      have HO : Hid (Own wr W1.heap.size u10 (ptsX d A Z l k)) := hown
      have HB : Hid (Below W1.heap.size W1 wr) := hbw
      have HBX : Hid (∀ u, Below wr.heap.size wr u → u.heap[w.heap.size]? = some (.cells (plC p A Z) tPl (0, 0))) := fun u hu => below_blk (below_next hbw hu) HX1.out
      have HFX : Hid (∀ u, Below wr.heap.size wr u → u.heap[g0]? = some (.cells #[.int .u64 (l.n : Int), .int .u64 (l.e : Int), .int .i64 (l.len : Int), .int .i64 (l.i : Int), .slice a Y.length c] tPc (0, 0))) := fun u hu => below_blk (below_next hbw hu) HF1.out
      obtain ⟨f0, f1, f2, f3, f4⟩ := cells5 (HFX.out wr (Below.refl _ _))
      clear hown hbw hik
      by_cases hlt : i < M
      · have hltI : (i : Int) < (M : Int) := by omega
        have hiw : IntKind.i64.wrap ((i : Int) + 1) = ((i + 1 : Nat) : Int) := by rw [IntKind.wrap_i64]; have := HM.out; omega
        have HPT : Hid (∀ u, Calls Tryd.prog 51 #[lbV l.n l.e l.len l.i, .int .i64 (i : Int)] u fun er w' => er = .returned (lbV (ptQ l i).n (ptQ l i).e (ptQ l i).len (ptQ l i).i) ∧ Below u.heap.size u w') := fun u => part_t l.n l.e l.len l.i i (by have := HLT.out; have := HM.out; omega) (by have := HM.out; omega) u
        have HRP : Hid (∀ u, Below wr.heap.size wr u → Calls Tryd.prog 61 #[plV p A Z, lbV (ptQ l i).n (ptQ l i).e (ptQ l i).len (ptQ l i).i] u fun e w' => PcRes (ptE d A Z (ptQ l i)) (pcL d A Z (ptQ l i).n) (pcX d A Z (ptQ l i).n) u e w') := fun u hu => HRQ.out u (ptQ l i) (below_next (below_next HB1.out HB.out) hu) (by show l.n + i < _; have := HLT.out; have := HM.out; omega)
        obtain ⟨PE, hPE⟩ : ∃ PE, PE = ptE d A Z (ptQ l i) := ⟨_, rfl⟩
        obtain ⟨X9, hX9⟩ : ∃ X9, X9 = pcX d A Z (l.n + i) := ⟨_, rfl⟩
        have hX9' : pcX d A Z (ptQ l i).n = X9 := hX9.symm
        rw [← hPE, hX9'] at HRP
        have HNX : Hid (ptsE d A Z l i = PE) := by unfold Hid; rw [HIK.out, ptsE_next HPZ.out, ← HIK.out, ← hPE]
        have HXX : Hid (ptsX d A Z l i = ptsX d A Z l k ++ X9) := by unfold Hid; rw [HIK.out]; show ptsX d A Z l k ++ pcX d A Z (l.n + (k + 1)) = _; rw [← HIK.out, ← hX9]
        have HX9L : Hid (X9.length ≤ 104) := by unfold Hid; rw [hX9]; exact pcX_len _ _ _ _
        clear hPE hX9 hX9'
        by_cases hPZ : PE = 0
        · have HPE : Hid (PE = 0) := hPZ
          have HNX2 : Hid (ptsE d A Z l i = 0) := by unfold Hid; rw [HNX.out]; exact hPZ
          clear hPZ
          go_upto_region 8 with (go_at_call 11; refine Calls.mono (HNE.out _) ?_; rintro e w' ⟨rfl, hq⟩; have hq := hq.symm; subst hq)
          refine wp_region_held_drew (S := (fun u => Below wr.heap.size wr u)) (by kernel_rfl) (by first | exact (Below.refl _ _).drew | exact HN3.out | exact HN2.out | exact alS hHeld _ | exact hz9 | assumption) (fun hHeld => ?_)
          refine take_at (i := 0) 36 (v := plV p A Z) rfl rfl (by kernel_rfl) (by kernel_rfl) (by kernel_rfl) (fun _ _ _ h => h) (by rfl) ?_ hHeld ?_
          · (intro w hSw; refine exec_load (by rfl) ?_; exact plLoad (HBX.out _ hSw))
          simp only [Act.put, List.setIfInBounds_toArray, List.set_cons_zero, List.set_cons_succ]
          refine take_at (i := 1) 37 (v := ?_) rfl rfl (by kernel_rfl) (by kernel_rfl) (by kernel_rfl) (fun _ _ _ h => h) (by rfl) ?_ hHeld ?_
          rotate_left
          · (intro w hSw; (try dsimp only at hSw); go_simp; try with_reducible rfl)
          simp only [Act.put, List.setIfInBounds_toArray, List.set_cons_zero, List.set_cons_succ]
          refine take_at (i := 2) 38 (v := lbV l.n l.e l.len l.i) rfl rfl (by kernel_rfl) (by kernel_rfl) (by kernel_rfl) (fun _ _ _ h => h) (by rfl) ?_ hHeld ?_
          · (intro w hSw; refine exec_load (by rfl) ?_; exact lbLoad (HFX.out _ hSw))
          simp only [Act.put, List.setIfInBounds_toArray, List.set_cons_zero, List.set_cons_succ]
          refine take_at (i := 3) 39 (v := ?_) rfl rfl (by kernel_rfl) (by kernel_rfl) (by kernel_rfl) (fun _ _ _ h => h) (by rfl) ?_ hHeld ?_
          rotate_left
          · (intro w hSw; (try dsimp only at hSw); go_simp; try with_reducible rfl)
          simp only [Act.put, List.setIfInBounds_toArray, List.set_cons_zero, List.set_cons_succ]
          refine wpAnyH_ready (rs := [4, 9]) (by kernel_rfl) (by simp) ?_
          refine AllReadyH.cons (o := _) rfl (fun K hK => ?_) ?_
          focus
            rw [if_pos (by rfl)]
            simp only [List.getElem_toArray, List.getElem_cons_zero, List.getElem_cons_succ]
            go_simp
            first | (go_at_call 51; refine Calls.mono (HPT.out _) ?_; rintro e u2 ⟨he2, hu2⟩; subst he2; have HU2 : Hid (Below _ _ u2) := hu2; have HN2 : Hid (Below wr.heap.size wr u2) := below_next hHeld hu2; clear hu2) | (go_at_call 61; refine Calls.mono (HRP.out _ hHeld) ?_; rintro e u3 hpo; have HU3 : Hid (Below _ _ u3) := hpo.bel; have HN3 : Hid (Below wr.heap.size wr u3) := below_next hHeld hpo.bel; obtain ⟨a9, c9, he9, hrd9, hnl9, hnw9⟩ := hpo.ok HPE.out; subst he9; have HNW9 : Hid (∀ q, a9 = some q → _ ≤ q.block) := hnw9; have HRD9 : Hid (Rd u3 a9 X9) := hrd9; have HNL9 : Hid (a9 = none → c9 = 0) := hnl9; clear hpo hrd9 hnl9 hnw9)
            go_wp2_with fail
            refine hK.out _ _ (by first | exact (Below.refl _ _).drew | exact HN3.out | exact HN2.out | exact alS hHeld _ | exact hz9 | assumption) ?_
            clear hK K
            intro hHeld2
            clear hHeld
            have hHeld := hHeld2
            clear hHeld2
            try simp only [Act.put, List.setIfInBounds_toArray, List.set_cons_zero, List.set_cons_succ]
            refine wpAnyH_ready (rs := [5, 9]) (by kernel_rfl) (by simp) ?_
            refine AllReadyH.cons (o := _) rfl (fun K hK => ?_) ?_
            focus
              rw [if_pos (by rfl)]
              simp only [List.getElem_toArray, List.getElem_cons_zero, List.getElem_cons_succ]
              go_simp
              first | (go_at_call 51; refine Calls.mono (HPT.out _) ?_; rintro e u2 ⟨he2, hu2⟩; subst he2; have HU2 : Hid (Below _ _ u2) := hu2; have HN2 : Hid (Below wr.heap.size wr u2) := below_next hHeld hu2; clear hu2) | (go_at_call 61; refine Calls.mono (HRP.out _ hHeld) ?_; rintro e u3 hpo; have HU3 : Hid (Below _ _ u3) := hpo.bel; have HN3 : Hid (Below wr.heap.size wr u3) := below_next hHeld hpo.bel; obtain ⟨a9, c9, he9, hrd9, hnl9, hnw9⟩ := hpo.ok HPE.out; subst he9; have HNW9 : Hid (∀ q, a9 = some q → _ ≤ q.block) := hnw9; have HRD9 : Hid (Rd u3 a9 X9) := hrd9; have HNL9 : Hid (a9 = none → c9 = 0) := hnl9; clear hpo hrd9 hnl9 hnw9)
              go_wp2_with fail
              refine hK.out _ _ (by first | exact (Below.refl _ _).drew | exact HN3.out | exact HN2.out | exact alS hHeld _ | exact hz9 | assumption) ?_
              clear hK K
              intro hHeld2
              clear hHeld
              have hHeld := hHeld2
              clear hHeld2
              try simp only [Act.put, List.setIfInBounds_toArray, List.set_cons_zero, List.set_cons_succ]
              refine take_at (i := 6) 35 (v := ?_) rfl rfl (by kernel_rfl) (by kernel_rfl) (by kernel_rfl) (fun _ _ _ h => h) (by rfl) ?_ hHeld ?_
              rotate_left
              · (intro w hSw; (try dsimp only at hSw); go_simp; try with_reducible rfl)
              simp only [Act.put, List.setIfInBounds_toArray, List.set_cons_zero, List.set_cons_succ]
              refine take_at (i := 7) 42 (v := ?_) rfl rfl (by kernel_rfl) (by kernel_rfl) (by kernel_rfl) (fun _ _ _ h => h) (by rfl) ?_ hHeld ?_
              rotate_left
              · (intro w hSw; (try dsimp only at hSw); go_simp; try with_reducible rfl)
              simp only [Act.put, List.setIfInBounds_toArray, List.set_cons_zero, List.set_cons_succ]
              refine take_at (i := 8) 43 (v := ?_) rfl rfl (by kernel_rfl) (by kernel_rfl) (by kernel_rfl) (fun _ _ _ h => h) (by rfl) ?_ hHeld ?_
              rotate_left
              · (intro w hSw; (try dsimp only at hSw); go_simp; try with_reducible rfl)
              simp only [Act.put, List.setIfInBounds_toArray, List.set_cons_zero, List.set_cons_succ]
              refine run_at (i := 9) rfl (by kernel_rfl) (by rfl) (fun K hK => ?_)
              simp only [List.getElem_toArray, List.getElem_cons_zero, List.getElem_cons_succ]
              go_simp
              go_wp2_with fail
              refine hK.out _ _ (by first | exact (Below.refl _ _).drew | exact HN3.out | exact HN2.out | exact alS hHeld _ | exact hz9 | assumption) ?_
              clear hK K
              intro hHeld2
              clear hHeld
              have hHeld := hHeld2
              clear hHeld2
              try simp only [Act.put, List.setIfInBounds_toArray, List.set_cons_zero, List.set_cons_succ]
              refine run_at (i := 10) rfl (by kernel_rfl) (by rfl) (fun K hK => ?_)
              simp only [List.getElem_toArray, List.getElem_cons_zero, List.getElem_cons_succ]
              ((refine wpo_storeP (W := wr) _ _ rfl _ _ _ _ _ _ (by rfl) (by rfl) (by simp [Value.oneCell']) _ _ _ _ _ _ (by first | exact heap_alloc_new _ _ | exact below_blk HU3.out (heap_alloc_new _ _) | exact below_blk (below_next HU2.out HU3.out) (heap_alloc_new _ _)) (show Below wr.heap.size wr _ from hHeld) (by first | exact HN3.out.size | exact HN2.out.size | exact Nat.le_refl _) ?_; intro z9 hz9 hcz9 hgz9))
              refine hK.out _ _ (by first | exact (Below.refl _ _).drew | exact HN3.out | exact HN2.out | exact alS hHeld _ | exact hz9 | assumption) ?_
              clear hK K
              intro hHeld2
              clear hHeld
              have hHeld := hHeld2
              clear hHeld2
              try simp only [Act.put, List.setIfInBounds_toArray, List.set_cons_zero, List.set_cons_succ]
              refine take_at (i := 11) 13 (v := ?_) rfl rfl (by kernel_rfl) (by kernel_rfl) (by kernel_rfl) (fun _ _ _ h => h) (by rfl) ?_ hHeld ?_
              rotate_left
              · (intro w hSw; (try dsimp only at hSw); go_simp; try with_reducible rfl)
              simp only [Act.put, List.setIfInBounds_toArray, List.set_cons_zero, List.set_cons_succ]
              refine wpAnyH_done (by kernel_rfl) ?_ _
            rotate_left 1
            refine AllReadyH.cons (o := _) rfl (fun K hK => ?_) AllReadyH.nil
            focus
              rw [if_pos (by rfl)]
              simp only [List.getElem_toArray, List.getElem_cons_zero, List.getElem_cons_succ]
              go_simp
              go_wp2_with fail
              refine hK.out _ _ (by first | exact (Below.refl _ _).drew | exact HN3.out | exact HN2.out | exact alS hHeld _ | exact hz9 | assumption) ?_
              clear hK K
              intro hHeld2
              clear hHeld
              have hHeld := hHeld2
              clear hHeld2
              try simp only [Act.put, List.setIfInBounds_toArray, List.set_cons_zero, List.set_cons_succ]
              refine run_at (i := 5) rfl (by kernel_rfl) (by rfl) (fun K hK => ?_)
              simp only [List.getElem_toArray, List.getElem_cons_zero, List.getElem_cons_succ]
              go_simp
              first | (go_at_call 51; refine Calls.mono (HPT.out _) ?_; rintro e u2 ⟨he2, hu2⟩; subst he2; have HU2 : Hid (Below _ _ u2) := hu2; have HN2 : Hid (Below wr.heap.size wr u2) := below_next hHeld hu2; clear hu2) | (go_at_call 61; refine Calls.mono (HRP.out _ hHeld) ?_; rintro e u3 hpo; have HU3 : Hid (Below _ _ u3) := hpo.bel; have HN3 : Hid (Below wr.heap.size wr u3) := below_next hHeld hpo.bel; obtain ⟨a9, c9, he9, hrd9, hnl9, hnw9⟩ := hpo.ok HPE.out; subst he9; have HNW9 : Hid (∀ q, a9 = some q → _ ≤ q.block) := hnw9; have HRD9 : Hid (Rd u3 a9 X9) := hrd9; have HNL9 : Hid (a9 = none → c9 = 0) := hnl9; clear hpo hrd9 hnl9 hnw9)
              go_wp2_with fail
              refine hK.out _ _ (by first | exact (Below.refl _ _).drew | exact HN3.out | exact HN2.out | exact alS hHeld _ | exact hz9 | assumption) ?_
              clear hK K
              intro hHeld2
              clear hHeld
              have hHeld := hHeld2
              clear hHeld2
              try simp only [Act.put, List.setIfInBounds_toArray, List.set_cons_zero, List.set_cons_succ]
              refine take_at (i := 6) 35 (v := ?_) rfl rfl (by kernel_rfl) (by kernel_rfl) (by kernel_rfl) (fun _ _ _ h => h) (by rfl) ?_ hHeld ?_
              rotate_left
              · (intro w hSw; (try dsimp only at hSw); go_simp; try with_reducible rfl)
              simp only [Act.put, List.setIfInBounds_toArray, List.set_cons_zero, List.set_cons_succ]
              refine take_at (i := 7) 42 (v := ?_) rfl rfl (by kernel_rfl) (by kernel_rfl) (by kernel_rfl) (fun _ _ _ h => h) (by rfl) ?_ hHeld ?_
              rotate_left
              · (intro w hSw; (try dsimp only at hSw); go_simp; try with_reducible rfl)
              simp only [Act.put, List.setIfInBounds_toArray, List.set_cons_zero, List.set_cons_succ]
              refine take_at (i := 8) 43 (v := ?_) rfl rfl (by kernel_rfl) (by kernel_rfl) (by kernel_rfl) (fun _ _ _ h => h) (by rfl) ?_ hHeld ?_
              rotate_left
              · (intro w hSw; (try dsimp only at hSw); go_simp; try with_reducible rfl)
              simp only [Act.put, List.setIfInBounds_toArray, List.set_cons_zero, List.set_cons_succ]
              refine run_at (i := 10) rfl (by kernel_rfl) (by rfl) (fun K hK => ?_)
              simp only [List.getElem_toArray, List.getElem_cons_zero, List.getElem_cons_succ]
              ((refine wpo_storeP (W := wr) _ _ rfl _ _ _ _ _ _ (by rfl) (by rfl) (by simp [Value.oneCell']) _ _ _ _ _ _ (by first | exact heap_alloc_new _ _ | exact below_blk HU3.out (heap_alloc_new _ _) | exact below_blk (below_next HU2.out HU3.out) (heap_alloc_new _ _)) (show Below wr.heap.size wr _ from hHeld) (by first | exact HN3.out.size | exact HN2.out.size | exact Nat.le_refl _) ?_; intro z9 hz9 hcz9 hgz9))
              refine hK.out _ _ (by first | exact (Below.refl _ _).drew | exact HN3.out | exact HN2.out | exact alS hHeld _ | exact hz9 | assumption) ?_
              clear hK K
              intro hHeld2
              clear hHeld
              have hHeld := hHeld2
              clear hHeld2
              try simp only [Act.put, List.setIfInBounds_toArray, List.set_cons_zero, List.set_cons_succ]
              refine take_at (i := 11) 13 (v := ?_) rfl rfl (by kernel_rfl) (by kernel_rfl) (by kernel_rfl) (fun _ _ _ h => h) (by rfl) ?_ hHeld ?_
              rotate_left
              · (intro w hSw; (try dsimp only at hSw); go_simp; try with_reducible rfl)
              simp only [Act.put, List.setIfInBounds_toArray, List.set_cons_zero, List.set_cons_succ]
              refine wpAnyH_done (by kernel_rfl) ?_ _
          rotate_left 2
          refine AllReadyH.cons (o := _) rfl (fun K hK => ?_) AllReadyH.nil
          focus
            rw [if_pos (by rfl)]
            simp only [List.getElem_toArray, List.getElem_cons_zero, List.getElem_cons_succ]
            go_simp
            go_wp2_with fail
            refine hK.out _ _ (by first | exact (Below.refl _ _).drew | exact HN3.out | exact HN2.out | exact alS hHeld _ | exact hz9 | assumption) ?_
            clear hK K
            intro hHeld2
            clear hHeld
            have hHeld := hHeld2
            clear hHeld2
            try simp only [Act.put, List.setIfInBounds_toArray, List.set_cons_zero, List.set_cons_succ]
            refine run_at (i := 4) rfl (by kernel_rfl) (by rfl) (fun K hK => ?_)
            simp only [List.getElem_toArray, List.getElem_cons_zero, List.getElem_cons_succ]
            go_simp
            first | (go_at_call 51; refine Calls.mono (HPT.out _) ?_; rintro e u2 ⟨he2, hu2⟩; subst he2; have HU2 : Hid (Below _ _ u2) := hu2; have HN2 : Hid (Below wr.heap.size wr u2) := below_next hHeld hu2; clear hu2) | (go_at_call 61; refine Calls.mono (HRP.out _ hHeld) ?_; rintro e u3 hpo; have HU3 : Hid (Below _ _ u3) := hpo.bel; have HN3 : Hid (Below wr.heap.size wr u3) := below_next hHeld hpo.bel; obtain ⟨a9, c9, he9, hrd9, hnl9, hnw9⟩ := hpo.ok HPE.out; subst he9; have HNW9 : Hid (∀ q, a9 = some q → _ ≤ q.block) := hnw9; have HRD9 : Hid (Rd u3 a9 X9) := hrd9; have HNL9 : Hid (a9 = none → c9 = 0) := hnl9; clear hpo hrd9 hnl9 hnw9)
            go_wp2_with fail
            refine hK.out _ _ (by first | exact (Below.refl _ _).drew | exact HN3.out | exact HN2.out | exact alS hHeld _ | exact hz9 | assumption) ?_
            clear hK K
            intro hHeld2
            clear hHeld
            have hHeld := hHeld2
            clear hHeld2
            try simp only [Act.put, List.setIfInBounds_toArray, List.set_cons_zero, List.set_cons_succ]
            refine run_at (i := 5) rfl (by kernel_rfl) (by rfl) (fun K hK => ?_)
            simp only [List.getElem_toArray, List.getElem_cons_zero, List.getElem_cons_succ]
            go_simp
            first | (go_at_call 51; refine Calls.mono (HPT.out _) ?_; rintro e u2 ⟨he2, hu2⟩; subst he2; have HU2 : Hid (Below _ _ u2) := hu2; have HN2 : Hid (Below wr.heap.size wr u2) := below_next hHeld hu2; clear hu2) | (go_at_call 61; refine Calls.mono (HRP.out _ hHeld) ?_; rintro e u3 hpo; have HU3 : Hid (Below _ _ u3) := hpo.bel; have HN3 : Hid (Below wr.heap.size wr u3) := below_next hHeld hpo.bel; obtain ⟨a9, c9, he9, hrd9, hnl9, hnw9⟩ := hpo.ok HPE.out; subst he9; have HNW9 : Hid (∀ q, a9 = some q → _ ≤ q.block) := hnw9; have HRD9 : Hid (Rd u3 a9 X9) := hrd9; have HNL9 : Hid (a9 = none → c9 = 0) := hnl9; clear hpo hrd9 hnl9 hnw9)
            go_wp2_with fail
            refine hK.out _ _ (by first | exact (Below.refl _ _).drew | exact HN3.out | exact HN2.out | exact alS hHeld _ | exact hz9 | assumption) ?_
            clear hK K
            intro hHeld2
            clear hHeld
            have hHeld := hHeld2
            clear hHeld2
            try simp only [Act.put, List.setIfInBounds_toArray, List.set_cons_zero, List.set_cons_succ]
            refine take_at (i := 6) 35 (v := ?_) rfl rfl (by kernel_rfl) (by kernel_rfl) (by kernel_rfl) (fun _ _ _ h => h) (by rfl) ?_ hHeld ?_
            rotate_left
            · (intro w hSw; (try dsimp only at hSw); go_simp; try with_reducible rfl)
            simp only [Act.put, List.setIfInBounds_toArray, List.set_cons_zero, List.set_cons_succ]
            refine take_at (i := 7) 42 (v := ?_) rfl rfl (by kernel_rfl) (by kernel_rfl) (by kernel_rfl) (fun _ _ _ h => h) (by rfl) ?_ hHeld ?_
            rotate_left
            · (intro w hSw; (try dsimp only at hSw); go_simp; try with_reducible rfl)
            simp only [Act.put, List.setIfInBounds_toArray, List.set_cons_zero, List.set_cons_succ]
            refine take_at (i := 8) 43 (v := ?_) rfl rfl (by kernel_rfl) (by kernel_rfl) (by kernel_rfl) (fun _ _ _ h => h) (by rfl) ?_ hHeld ?_
            rotate_left
            · (intro w hSw; (try dsimp only at hSw); go_simp; try with_reducible rfl)
            simp only [Act.put, List.setIfInBounds_toArray, List.set_cons_zero, List.set_cons_succ]
            refine run_at (i := 10) rfl (by kernel_rfl) (by rfl) (fun K hK => ?_)
            simp only [List.getElem_toArray, List.getElem_cons_zero, List.getElem_cons_succ]
            ((refine wpo_storeP (W := wr) _ _ rfl _ _ _ _ _ _ (by rfl) (by rfl) (by simp [Value.oneCell']) _ _ _ _ _ _ (by first | exact heap_alloc_new _ _ | exact below_blk HU3.out (heap_alloc_new _ _) | exact below_blk (below_next HU2.out HU3.out) (heap_alloc_new _ _)) (show Below wr.heap.size wr _ from hHeld) (by first | exact HN3.out.size | exact HN2.out.size | exact Nat.le_refl _) ?_; intro z9 hz9 hcz9 hgz9))
            refine hK.out _ _ (by first | exact (Below.refl _ _).drew | exact HN3.out | exact HN2.out | exact alS hHeld _ | exact hz9 | assumption) ?_
            clear hK K
            intro hHeld2
            clear hHeld
            have hHeld := hHeld2
            clear hHeld2
            try simp only [Act.put, List.setIfInBounds_toArray, List.set_cons_zero, List.set_cons_succ]
            refine take_at (i := 11) 13 (v := ?_) rfl rfl (by kernel_rfl) (by kernel_rfl) (by kernel_rfl) (fun _ _ _ h => h) (by rfl) ?_ hHeld ?_
            rotate_left
            · (intro w hSw; (try dsimp only at hSw); go_simp; try with_reducible rfl)
            simp only [Act.put, List.setIfInBounds_toArray, List.set_cons_zero, List.set_cons_succ]
            refine wpAnyH_done (by kernel_rfl) ?_ _
          all_goals
            have HRZ : Hid (Rd z9 a9 X9) := (by first | exact rd_store3 HRD9.out hgz9 | exact rd_store1 HRD9.out hgz9 (fun q e => by have h8 := HNW9.out q e; have h7 := HU2.out.size; simp at h8 h7; simp; omega))
            have HZ9 : Hid (Below wr.heap.size wr z9) := hz9
            obtain ⟨j0, j1, j2, j3, j4⟩ := cells5 hcz9
            have HOZ : Hid (Own z9 W1.heap.size u10 (ptsX d A Z l k)) := Own.below HO.out hz9
            have HSZ : Hid (W1.heap.size ≤ z9.heap.size) := Nat.le_trans HB.out.size hz9.size
            have HLL : Hid ((ptsX d A Z l k).length ≤ 10000) := by
              unfold Hid
              have h8 := ptsX_len d A Z l k
              have h7 := HM.out.2.1
              have h6 : (k + 1) * 104 ≤ 79 * 104 := Nat.mul_le_mul_right _ (by omega)
              omega
            clear hz9 hcz9 hgz9 f0 f1 f2 f3 f4
            go_wp2_with (at_builtin; refine wp_app rfl _ _ rfl W1.heap.size u10 (ptsX d A Z l k) X9 _ _ rfl HOZ.out rfl HRZ.out HNL9.out (by have := HLL.out; have := HX9L.out; omega) HSZ.out ?_; intro v9 w9 hown9 hg9; have HO9 : Hid (Own w9 W1.heap.size v9 (ptsX d A Z l k ++ X9)) := hown9; have HG9 : Hid _ := hg9; clear hown9 hg9)
            go_roundw
            case rel => exact ⟨i, by omega, by go_num, HNX2, by rw [HXX.out]; exact HO9.out, (below_next HB.out HZ9.out).grown HG9.out HSZ.out (fun b hb => (World.ownsRow.lt HO.out b hb).1)⟩
            case measure => simp [intOf]; omega
        · have HPE : Hid (PE ≠ 0) := hPZ
          clear hPZ
          go_upto_region 8 with (go_at_call 11; refine Calls.mono (HNE.out _) ?_; rintro e w' ⟨rfl, hq⟩; have hq := hq.symm; subst hq)
          refine wp_region_held_drew (S := (fun u => Below wr.heap.size wr u)) (by kernel_rfl) (by first | exact (Below.refl _ _).drew | exact HN3.out | exact HN2.out | exact alS hHeld _ | exact hz9 | assumption) (fun hHeld => ?_)
          refine take_at (i := 0) 36 (v := plV p A Z) rfl rfl (by kernel_rfl) (by kernel_rfl) (by kernel_rfl) (fun _ _ _ h => h) (by rfl) ?_ hHeld ?_
          · (intro w hSw; refine exec_load (by rfl) ?_; exact plLoad (HBX.out _ hSw))
          simp only [Act.put, List.setIfInBounds_toArray, List.set_cons_zero, List.set_cons_succ]
          refine take_at (i := 1) 37 (v := ?_) rfl rfl (by kernel_rfl) (by kernel_rfl) (by kernel_rfl) (fun _ _ _ h => h) (by rfl) ?_ hHeld ?_
          rotate_left
          · (intro w hSw; (try dsimp only at hSw); go_simp; try with_reducible rfl)
          simp only [Act.put, List.setIfInBounds_toArray, List.set_cons_zero, List.set_cons_succ]
          refine take_at (i := 2) 38 (v := lbV l.n l.e l.len l.i) rfl rfl (by kernel_rfl) (by kernel_rfl) (by kernel_rfl) (fun _ _ _ h => h) (by rfl) ?_ hHeld ?_
          · (intro w hSw; refine exec_load (by rfl) ?_; exact lbLoad (HFX.out _ hSw))
          simp only [Act.put, List.setIfInBounds_toArray, List.set_cons_zero, List.set_cons_succ]
          refine take_at (i := 3) 39 (v := ?_) rfl rfl (by kernel_rfl) (by kernel_rfl) (by kernel_rfl) (fun _ _ _ h => h) (by rfl) ?_ hHeld ?_
          rotate_left
          · (intro w hSw; (try dsimp only at hSw); go_simp; try with_reducible rfl)
          simp only [Act.put, List.setIfInBounds_toArray, List.set_cons_zero, List.set_cons_succ]
          refine wpAnyH_ready (rs := [4, 9]) (by kernel_rfl) (by simp) ?_
          refine AllReadyH.cons (o := _) rfl (fun K hK => ?_) ?_
          focus
            rw [if_pos (by rfl)]
            simp only [List.getElem_toArray, List.getElem_cons_zero, List.getElem_cons_succ]
            go_simp
            first | (go_at_call 51; refine Calls.mono (HPT.out _) ?_; rintro e u2 ⟨he2, hu2⟩; subst he2; have HU2 : Hid (Below _ _ u2) := hu2; have HN2 : Hid (Below wr.heap.size wr u2) := below_next hHeld hu2; clear hu2) | (go_at_call 61; refine Calls.mono (HRP.out _ hHeld) ?_; rintro e u3 hpo; have HU3 : Hid (Below _ _ u3) := hpo.bel; have HN3 : Hid (Below wr.heap.size wr u3) := below_next hHeld hpo.bel; have he9 := hpo.no HPE.out; subst he9; clear hpo)
            go_wp2_with fail
            refine hK.out _ _ (by first | exact (Below.refl _ _).drew | exact HN3.out | exact HN2.out | exact alS hHeld _ | exact hz9 | assumption) ?_
            clear hK K
            intro hHeld2
            clear hHeld
            have hHeld := hHeld2
            clear hHeld2
            try simp only [Act.put, List.setIfInBounds_toArray, List.set_cons_zero, List.set_cons_succ]
            refine wpAnyH_ready (rs := [5, 9]) (by kernel_rfl) (by simp) ?_
            refine AllReadyH.cons (o := _) rfl (fun K hK => ?_) ?_
            focus
              rw [if_pos (by rfl)]
              simp only [List.getElem_toArray, List.getElem_cons_zero, List.getElem_cons_succ]
              go_simp
              first | (go_at_call 51; refine Calls.mono (HPT.out _) ?_; rintro e u2 ⟨he2, hu2⟩; subst he2; have HU2 : Hid (Below _ _ u2) := hu2; have HN2 : Hid (Below wr.heap.size wr u2) := below_next hHeld hu2; clear hu2) | (go_at_call 61; refine Calls.mono (HRP.out _ hHeld) ?_; rintro e u3 hpo; have HU3 : Hid (Below _ _ u3) := hpo.bel; have HN3 : Hid (Below wr.heap.size wr u3) := below_next hHeld hpo.bel; have he9 := hpo.no HPE.out; subst he9; clear hpo)
              go_wp2_with fail
              refine hK.out _ _ (by first | exact (Below.refl _ _).drew | exact HN3.out | exact HN2.out | exact alS hHeld _ | exact hz9 | assumption) ?_
              clear hK K
              intro hHeld2
              clear hHeld
              have hHeld := hHeld2
              clear hHeld2
              try simp only [Act.put, List.setIfInBounds_toArray, List.set_cons_zero, List.set_cons_succ]
              refine take_at (i := 6) 35 (v := ?_) rfl rfl (by kernel_rfl) (by kernel_rfl) (by kernel_rfl) (fun _ _ _ h => h) (by rfl) ?_ hHeld ?_
              rotate_left
              · (intro w hSw; (try dsimp only at hSw); go_simp; try with_reducible rfl)
              simp only [Act.put, List.setIfInBounds_toArray, List.set_cons_zero, List.set_cons_succ]
              refine take_at (i := 7) 42 (v := ?_) rfl rfl (by kernel_rfl) (by kernel_rfl) (by kernel_rfl) (fun _ _ _ h => h) (by rfl) ?_ hHeld ?_
              rotate_left
              · (intro w hSw; (try dsimp only at hSw); go_simp; try with_reducible rfl)
              simp only [Act.put, List.setIfInBounds_toArray, List.set_cons_zero, List.set_cons_succ]
              refine take_at (i := 8) 43 (v := ?_) rfl rfl (by kernel_rfl) (by kernel_rfl) (by kernel_rfl) (fun _ _ _ h => h) (by rfl) ?_ hHeld ?_
              rotate_left
              · (intro w hSw; (try dsimp only at hSw); go_simp; try with_reducible rfl)
              simp only [Act.put, List.setIfInBounds_toArray, List.set_cons_zero, List.set_cons_succ]
              refine run_at (i := 9) rfl (by kernel_rfl) (by rfl) (fun K hK => ?_)
              simp only [List.getElem_toArray, List.getElem_cons_zero, List.getElem_cons_succ]
              go_simp
              go_wp2_with fail
              refine hK.out _ _ (by first | exact (Below.refl _ _).drew | exact HN3.out | exact HN2.out | exact alS hHeld _ | exact hz9 | assumption) ?_
              clear hK K
              intro hHeld2
              clear hHeld
              have hHeld := hHeld2
              clear hHeld2
              try simp only [Act.put, List.setIfInBounds_toArray, List.set_cons_zero, List.set_cons_succ]
              refine run_at (i := 10) rfl (by kernel_rfl) (by rfl) (fun K hK => ?_)
              simp only [List.getElem_toArray, List.getElem_cons_zero, List.getElem_cons_succ]
              ((refine wpo_storeP (W := wr) _ _ rfl _ _ _ _ _ _ (by rfl) (by rfl) (by simp [Value.oneCell']) _ _ _ _ _ _ (by first | exact heap_alloc_new _ _ | exact below_blk HU3.out (heap_alloc_new _ _) | exact below_blk (below_next HU2.out HU3.out) (heap_alloc_new _ _)) (show Below wr.heap.size wr _ from hHeld) (by first | exact HN3.out.size | exact HN2.out.size | exact Nat.le_refl _) ?_; intro z9 hz9 hcz9 hgz9))
              refine hK.out _ _ (by first | exact (Below.refl _ _).drew | exact HN3.out | exact HN2.out | exact alS hHeld _ | exact hz9 | assumption) ?_
              clear hK K
              intro hHeld2
              clear hHeld
              have hHeld := hHeld2
              clear hHeld2
              try simp only [Act.put, List.setIfInBounds_toArray, List.set_cons_zero, List.set_cons_succ]
              refine take_at (i := 11) 13 (v := ?_) rfl rfl (by kernel_rfl) (by kernel_rfl) (by kernel_rfl) (fun _ _ _ h => h) (by rfl) ?_ hHeld ?_
              rotate_left
              · (intro w hSw; (try dsimp only at hSw); go_simp; try with_reducible rfl)
              simp only [Act.put, List.setIfInBounds_toArray, List.set_cons_zero, List.set_cons_succ]
              refine wpAnyH_done (by kernel_rfl) ?_ _
            rotate_left 1
            refine AllReadyH.cons (o := _) rfl (fun K hK => ?_) AllReadyH.nil
            focus
              rw [if_pos (by rfl)]
              simp only [List.getElem_toArray, List.getElem_cons_zero, List.getElem_cons_succ]
              go_simp
              go_wp2_with fail
              refine hK.out _ _ (by first | exact (Below.refl _ _).drew | exact HN3.out | exact HN2.out | exact alS hHeld _ | exact hz9 | assumption) ?_
              clear hK K
              intro hHeld2
              clear hHeld
              have hHeld := hHeld2
              clear hHeld2
              try simp only [Act.put, List.setIfInBounds_toArray, List.set_cons_zero, List.set_cons_succ]
              refine run_at (i := 5) rfl (by kernel_rfl) (by rfl) (fun K hK => ?_)
              simp only [List.getElem_toArray, List.getElem_cons_zero, List.getElem_cons_succ]
              go_simp
              first | (go_at_call 51; refine Calls.mono (HPT.out _) ?_; rintro e u2 ⟨he2, hu2⟩; subst he2; have HU2 : Hid (Below _ _ u2) := hu2; have HN2 : Hid (Below wr.heap.size wr u2) := below_next hHeld hu2; clear hu2) | (go_at_call 61; refine Calls.mono (HRP.out _ hHeld) ?_; rintro e u3 hpo; have HU3 : Hid (Below _ _ u3) := hpo.bel; have HN3 : Hid (Below wr.heap.size wr u3) := below_next hHeld hpo.bel; have he9 := hpo.no HPE.out; subst he9; clear hpo)
              go_wp2_with fail
              refine hK.out _ _ (by first | exact (Below.refl _ _).drew | exact HN3.out | exact HN2.out | exact alS hHeld _ | exact hz9 | assumption) ?_
              clear hK K
              intro hHeld2
              clear hHeld
              have hHeld := hHeld2
              clear hHeld2
              try simp only [Act.put, List.setIfInBounds_toArray, List.set_cons_zero, List.set_cons_succ]
              refine take_at (i := 6) 35 (v := ?_) rfl rfl (by kernel_rfl) (by kernel_rfl) (by kernel_rfl) (fun _ _ _ h => h) (by rfl) ?_ hHeld ?_
              rotate_left
              · (intro w hSw; (try dsimp only at hSw); go_simp; try with_reducible rfl)
              simp only [Act.put, List.setIfInBounds_toArray, List.set_cons_zero, List.set_cons_succ]
              refine take_at (i := 7) 42 (v := ?_) rfl rfl (by kernel_rfl) (by kernel_rfl) (by kernel_rfl) (fun _ _ _ h => h) (by rfl) ?_ hHeld ?_
              rotate_left
              · (intro w hSw; (try dsimp only at hSw); go_simp; try with_reducible rfl)
              simp only [Act.put, List.setIfInBounds_toArray, List.set_cons_zero, List.set_cons_succ]
              refine take_at (i := 8) 43 (v := ?_) rfl rfl (by kernel_rfl) (by kernel_rfl) (by kernel_rfl) (fun _ _ _ h => h) (by rfl) ?_ hHeld ?_
              rotate_left
              · (intro w hSw; (try dsimp only at hSw); go_simp; try with_reducible rfl)
              simp only [Act.put, List.setIfInBounds_toArray, List.set_cons_zero, List.set_cons_succ]
              refine run_at (i := 10) rfl (by kernel_rfl) (by rfl) (fun K hK => ?_)
              simp only [List.getElem_toArray, List.getElem_cons_zero, List.getElem_cons_succ]
              ((refine wpo_storeP (W := wr) _ _ rfl _ _ _ _ _ _ (by rfl) (by rfl) (by simp [Value.oneCell']) _ _ _ _ _ _ (by first | exact heap_alloc_new _ _ | exact below_blk HU3.out (heap_alloc_new _ _) | exact below_blk (below_next HU2.out HU3.out) (heap_alloc_new _ _)) (show Below wr.heap.size wr _ from hHeld) (by first | exact HN3.out.size | exact HN2.out.size | exact Nat.le_refl _) ?_; intro z9 hz9 hcz9 hgz9))
              refine hK.out _ _ (by first | exact (Below.refl _ _).drew | exact HN3.out | exact HN2.out | exact alS hHeld _ | exact hz9 | assumption) ?_
              clear hK K
              intro hHeld2
              clear hHeld
              have hHeld := hHeld2
              clear hHeld2
              try simp only [Act.put, List.setIfInBounds_toArray, List.set_cons_zero, List.set_cons_succ]
              refine take_at (i := 11) 13 (v := ?_) rfl rfl (by kernel_rfl) (by kernel_rfl) (by kernel_rfl) (fun _ _ _ h => h) (by rfl) ?_ hHeld ?_
              rotate_left
              · (intro w hSw; (try dsimp only at hSw); go_simp; try with_reducible rfl)
              simp only [Act.put, List.setIfInBounds_toArray, List.set_cons_zero, List.set_cons_succ]
              refine wpAnyH_done (by kernel_rfl) ?_ _
          rotate_left 2
          refine AllReadyH.cons (o := _) rfl (fun K hK => ?_) AllReadyH.nil
          focus
            rw [if_pos (by rfl)]
            simp only [List.getElem_toArray, List.getElem_cons_zero, List.getElem_cons_succ]
            go_simp
            go_wp2_with fail
            refine hK.out _ _ (by first | exact (Below.refl _ _).drew | exact HN3.out | exact HN2.out | exact alS hHeld _ | exact hz9 | assumption) ?_
            clear hK K
            intro hHeld2
            clear hHeld
            have hHeld := hHeld2
            clear hHeld2
            try simp only [Act.put, List.setIfInBounds_toArray, List.set_cons_zero, List.set_cons_succ]
            refine run_at (i := 4) rfl (by kernel_rfl) (by rfl) (fun K hK => ?_)
            simp only [List.getElem_toArray, List.getElem_cons_zero, List.getElem_cons_succ]
            go_simp
            first | (go_at_call 51; refine Calls.mono (HPT.out _) ?_; rintro e u2 ⟨he2, hu2⟩; subst he2; have HU2 : Hid (Below _ _ u2) := hu2; have HN2 : Hid (Below wr.heap.size wr u2) := below_next hHeld hu2; clear hu2) | (go_at_call 61; refine Calls.mono (HRP.out _ hHeld) ?_; rintro e u3 hpo; have HU3 : Hid (Below _ _ u3) := hpo.bel; have HN3 : Hid (Below wr.heap.size wr u3) := below_next hHeld hpo.bel; have he9 := hpo.no HPE.out; subst he9; clear hpo)
            go_wp2_with fail
            refine hK.out _ _ (by first | exact (Below.refl _ _).drew | exact HN3.out | exact HN2.out | exact alS hHeld _ | exact hz9 | assumption) ?_
            clear hK K
            intro hHeld2
            clear hHeld
            have hHeld := hHeld2
            clear hHeld2
            try simp only [Act.put, List.setIfInBounds_toArray, List.set_cons_zero, List.set_cons_succ]
            refine run_at (i := 5) rfl (by kernel_rfl) (by rfl) (fun K hK => ?_)
            simp only [List.getElem_toArray, List.getElem_cons_zero, List.getElem_cons_succ]
            go_simp
            first | (go_at_call 51; refine Calls.mono (HPT.out _) ?_; rintro e u2 ⟨he2, hu2⟩; subst he2; have HU2 : Hid (Below _ _ u2) := hu2; have HN2 : Hid (Below wr.heap.size wr u2) := below_next hHeld hu2; clear hu2) | (go_at_call 61; refine Calls.mono (HRP.out _ hHeld) ?_; rintro e u3 hpo; have HU3 : Hid (Below _ _ u3) := hpo.bel; have HN3 : Hid (Below wr.heap.size wr u3) := below_next hHeld hpo.bel; have he9 := hpo.no HPE.out; subst he9; clear hpo)
            go_wp2_with fail
            refine hK.out _ _ (by first | exact (Below.refl _ _).drew | exact HN3.out | exact HN2.out | exact alS hHeld _ | exact hz9 | assumption) ?_
            clear hK K
            intro hHeld2
            clear hHeld
            have hHeld := hHeld2
            clear hHeld2
            try simp only [Act.put, List.setIfInBounds_toArray, List.set_cons_zero, List.set_cons_succ]
            refine take_at (i := 6) 35 (v := ?_) rfl rfl (by kernel_rfl) (by kernel_rfl) (by kernel_rfl) (fun _ _ _ h => h) (by rfl) ?_ hHeld ?_
            rotate_left
            · (intro w hSw; (try dsimp only at hSw); go_simp; try with_reducible rfl)
            simp only [Act.put, List.setIfInBounds_toArray, List.set_cons_zero, List.set_cons_succ]
            refine take_at (i := 7) 42 (v := ?_) rfl rfl (by kernel_rfl) (by kernel_rfl) (by kernel_rfl) (fun _ _ _ h => h) (by rfl) ?_ hHeld ?_
            rotate_left
            · (intro w hSw; (try dsimp only at hSw); go_simp; try with_reducible rfl)
            simp only [Act.put, List.setIfInBounds_toArray, List.set_cons_zero, List.set_cons_succ]
            refine take_at (i := 8) 43 (v := ?_) rfl rfl (by kernel_rfl) (by kernel_rfl) (by kernel_rfl) (fun _ _ _ h => h) (by rfl) ?_ hHeld ?_
            rotate_left
            · (intro w hSw; (try dsimp only at hSw); go_simp; try with_reducible rfl)
            simp only [Act.put, List.setIfInBounds_toArray, List.set_cons_zero, List.set_cons_succ]
            refine run_at (i := 10) rfl (by kernel_rfl) (by rfl) (fun K hK => ?_)
            simp only [List.getElem_toArray, List.getElem_cons_zero, List.getElem_cons_succ]
            ((refine wpo_storeP (W := wr) _ _ rfl _ _ _ _ _ _ (by rfl) (by rfl) (by simp [Value.oneCell']) _ _ _ _ _ _ (by first | exact heap_alloc_new _ _ | exact below_blk HU3.out (heap_alloc_new _ _) | exact below_blk (below_next HU2.out HU3.out) (heap_alloc_new _ _)) (show Below wr.heap.size wr _ from hHeld) (by first | exact HN3.out.size | exact HN2.out.size | exact Nat.le_refl _) ?_; intro z9 hz9 hcz9 hgz9))
            refine hK.out _ _ (by first | exact (Below.refl _ _).drew | exact HN3.out | exact HN2.out | exact alS hHeld _ | exact hz9 | assumption) ?_
            clear hK K
            intro hHeld2
            clear hHeld
            have hHeld := hHeld2
            clear hHeld2
            try simp only [Act.put, List.setIfInBounds_toArray, List.set_cons_zero, List.set_cons_succ]
            refine take_at (i := 11) 13 (v := ?_) rfl rfl (by kernel_rfl) (by kernel_rfl) (by kernel_rfl) (fun _ _ _ h => h) (by rfl) ?_ hHeld ?_
            rotate_left
            · (intro w hSw; (try dsimp only at hSw); go_simp; try with_reducible rfl)
            simp only [Act.put, List.setIfInBounds_toArray, List.set_cons_zero, List.set_cons_succ]
            refine wpAnyH_done (by kernel_rfl) ?_ _
          all_goals
            have HZ9 : Hid (Below w.heap.size w z9) := below_next (below_next HB1.out HB.out) hz9
            have hPb : (PE != 0) = true := by simpa using HPE.out
            have HRR : Hid (rcE d A Z n hi = PE) := by
              unfold Hid
              rw [HRE.out, if_neg (fun h => h rfl), ← HM.out.1, ptsE_fail (k := i) (by rw [HNX.out]; exact HPE.out) (M - 1) (by omega), HNX.out]
            clear hz9 hcz9 hgz9 f0 f1 f2 f3 f4
            go_wp2
            go_ret2
            exact ⟨(fun h => absurd h (by rw [HRR.out]; exact HPE.out)), (fun _ => by rw [HRR.out]; rfl), HZ9.out⟩
      · obtain rfl : i = M := by have := HIK.out; omega
        have hltI : ¬ (i : Int) < (i : Int) := by omega
        have HRR : Hid (rcE d A Z n hi = 0 ∧ rcX d A Z n = ptsX d A Z l k) := by
          have h9 : needS l.len - 1 = k := by have := HIK.out; have := HM.out.1; omega
          unfold Hid
          rw [HRE.out, if_neg (fun h => h rfl), HRX.out, h9]
          exact ⟨HPZ.out, rfl⟩
        go_wp2_with (go_at_call 11; refine Calls.mono (HNE.out _) ?_; rintro e w' ⟨rfl, hq⟩; have hq := hq.symm; subst hq)
        go_ret2
        exact ⟨(fun _ => ⟨_, rfl, by rw [HRR.out.2]; exact Own.base HO.out HB1.out.size⟩), (fun h => absurd HRR.out.1 h), below_next HB1.out HB.out⟩
  · have he := hpo.no hE
    subst he
    have hEb : (FE != 0) = true := by simpa using hE
    have HE2 : Hid (rcE d A Z n hi = FE) := by unfold Hid; rw [HRE.out, if_pos hE]
    have HE3 : Hid (FE ≠ 0) := hE
    have HB2 : Hid (Below w.heap.size w (u1.alloc (.cells pcC0 tPc))) := below_next (below_next hb0 hpo.bel) (alS (Below.refl _ _) _)
    clear hpo hE hb0 hbx
    go_wp2
    go_ret2
    exact ⟨(fun h => absurd h (by rw [HE2.out]; exact HE3.out)), (fun _ => by rw [HE2.out]; rfl), HB2.out⟩
end Go.Proofs.YtibepnilhmbpeaaDoor
