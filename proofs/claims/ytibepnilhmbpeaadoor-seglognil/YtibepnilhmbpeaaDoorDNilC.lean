import Derived.Test.YtibepnilhmbpeaaDoorDWrite
import Derived.Maps.RangeWalk
import Derived.MapFrom
namespace Go.Proofs.YtibepnilhmbpeaaDoor
set_option linter.unusedVariables false
set_option linter.unusedSimpArgs false
open Go.RowKit Go.Maps
theorem fit_empty (clock : Nat) : WideElems.Fit Tryd.prog 3 selfR #[] clock := ⟨Nat.zero_le _, by simp [MapKept.Stamped], fun x hx => by simp at hx⟩
theorem cache_none {w : World} {m N : Nat} {cl : Nat} (h : w.heap[m]? = some (.map #[] cl)) (n : Nat) : CacheAt w m N n (fun _ => []) (fun _ => nilS) := by
  refine ⟨⟨.map [], ⟨#[], cl, h, fit_empty cl, Nat.zero_le _, rfl⟩, fun i hi => absurd rfl hi, fun kl hk => ?_⟩, fun _ _ => rfl, fun _ => World.ownsRow_nil _ _ _ _, fun _ t ht => ?_, fun i j b hb => ?_, fun _ => Nat.zero_le _, fun i hi => absurd rfl hi⟩
  · simp [Maps.has] at hk
  · exact absurd ht (List.not_mem_nil)
  · simp [nilS, Value.ownBlock] at hb
theorem presS_none (s : Sec) : presS s [] = s := by simp [presS, afterS]
theorem presS_fit {s : Sec} (h : s.fit) {vs : List (List UInt8)} (hv : ∀ t ∈ vs, t.length = 128) : (presS s vs).fit := by
  unfold presS afterS
  split
  · exact h
  · split
    · rename_i h1 h2
      refine ⟨hv _ ?_, fun e => by cases e⟩
      rw [List.getD_eq_getElem?_getD, List.getElem?_eq_getElem (by omega), Option.getD_some]
      exact List.getElem_mem _
    · exact Sec.bad_fit
/-- the sectors, where those that are not left have come to be what they are at present -/
def flP (S : List Sec) (C : Nat → List (List UInt8)) (left : Lit → Bool) : List Sec := S.mapIdx fun k s => if left (kI k) then s else presS s (C k)
def flushed (S : List Sec) (C : Nat → List (List UInt8)) : List Sec := S.mapIdx fun k s => presS s (C k)
theorem flP_len (S : List Sec) (C : Nat → List (List UInt8)) (left : Lit → Bool) : (flP S C left).length = S.length := by simp [flP]
theorem flP_start (S : List Sec) (C : Nat → List (List UInt8)) (left : Lit → Bool) (h : ∀ k, k < S.length → C k ≠ [] → left (kI k) = true) : flP S C left = S := by
  apply List.ext_getElem (flP_len S C left)
  intro k h1 h2
  simp only [flP, List.getElem_mapIdx]
  by_cases hc : C k = []
  · rw [hc, presS_none]; split <;> rfl
  · rw [if_pos (h k h2 hc)]
theorem flP_end (S : List Sec) (C : Nat → List (List UInt8)) (left : Lit → Bool) (h : ∀ kl, left kl = false) : flP S C left = flushed S C := by
  unfold flP flushed
  simp only [h, Bool.false_eq_true, if_false]
theorem flP_at {S : List Sec} {C : Nat → List (List UInt8)} {left : Lit → Bool} {i : Nat} (hi : i < (flP S C left).length) (hl : left (kI i) = true) : (flP S C left)[i] = S[i]'(by rw [flP_len] at hi; exact hi) := by
  simp only [flP, List.getElem_mapIdx, hl, if_true]
theorem flP_step (S : List Sec) (C : Nat → List (List UInt8)) (left : Lit → Bool) (i : Nat) (hi : i < (flP S C left).length) (hN : S.length ≤ 65536) (hl : left (kI i) = true) : (flP S C left).set i (presS (flP S C left)[i] (C i)) = flP S C (fun z => left z && !z.sameKey (kI i)) := by
  have hi' : i < S.length := by rw [flP_len] at hi; exact hi
  apply List.ext_getElem (by simp [flP])
  intro k h1 h2
  have hk : k < S.length := by rw [flP_len] at h2; exact h2
  rw [List.getElem_set]
  by_cases e : i = k
  · subst e
    rw [if_pos rfl, flP_at hi hl]
    simp only [flP, List.getElem_mapIdx, WideAt.sameKey_self (kI_key (show i ≤ 65536 by omega)), Bool.not_true, Bool.and_false, Bool.false_eq_true, if_false]
  · rw [if_neg e]
    have hs : (kI k).sameKey (kI i) = false := by
      cases h : (kI k).sameKey (kI i)
      · rfl
      · exact absurd (WideAt.sameKey_eq h) (kI_ne (Ne.symm e))
    simp only [flP, List.getElem_mapIdx, hs, Bool.not_false, Bool.and_true]
theorem run_clear {w : World} {m : Nat} {es : Array MapEntry} {cl : Nat} (h : w.heap[m]? = some (.map es cl)) (ty : TypeId) : (Builtin.clear_ #[68] ty #[.map (some m)]).run Tryd.prog w = .ok (.tuple #[]) (ChangeMaps.setBlock w m (.map #[] cl)) := by
  simp [Builtin.clear_, run_underlying Tryd.underlying68, MapKept.run_getObj_map h, MapKept.run_setObj_map _ h, Result.andThen, ChangeMaps.setBlock]
/-- a sector of the disk stored -/
theorem DK.setSec {w : World} {p g m : Nat} {S : List Sec} {C : Nat → List (List UInt8)} {V : Nat → Value} {off : Bool} {fuse : Int} {n : Nat} (h : DK w p g m S C V off fuse n) (k : Nat) (hk : k < S.length) (y : Sec) (hy : y.fit) : DK (w.setCells g (k * 129) y.cells) p g m (S.set k y) C V off fuse n := by
  have hl : (S.set k y).length = S.length := by simp
  have hne := h.ne
  have hok := fit_ok h.fit
  have hc : Chg (fun b => b = g) w (w.setCells g (k * 129) y.cells) := Chg.of_grown (setCells_grown g y.cells (k * 129) w) (fun b hb => by cases hb; rfl)
  refine ⟨fun s hs => ?_, by rw [hl]; exact h.one, by rw [hl]; exact h.most, ?_, ?_, ?_, h.few, h.fu⟩
  · rcases List.mem_or_eq_of_mem_set hs with h1 | rfl
    · exact h.fit s h1
    · exact hy
  · rw [hl]; exact (hc.block p (h.lt (.inl rfl)) hne.1).trans h.hp
  · have h1 : k * 129 + y.cells.length ≤ (secs S).length := by
      rw [secs_len hok, Sec.cells_len hy.1]
      have : (k + 1) * 129 ≤ S.length * 129 := Nat.mul_le_mul_right _ hk
      omega
    rw [← secs_set hok k hk y hy.1]
    exact heap_setCells g _ y.cells (k * 129) (secs S) w h.hg h1
  · rw [hl]; exact h.cache.kept hc (fun e => hne.2.2 e.symm) (fun i b hb e => by subst e; exact (h.apartV i).2.1 hb)
/-- the cache emptied -/
theorem DK.cleared {w w' : World} {p g m : Nat} {S : List Sec} {C : Nat → List (List UInt8)} {V : Nat → Value} {off : Bool} {fuse : Int} {n : Nat} (h : DK w p g m S C V off fuse n) {cl : Nat} (hm : w'.heap[m]? = some (.map #[] cl)) (hc : Chg (fun b => b = m) w w') : DK w' p g m S (fun _ => []) (fun _ => nilS) off fuse 0 := by
  have hne := h.ne
  exact ⟨h.fit, h.one, h.most, (hc.block p (h.lt (.inl rfl)) hne.2.1).trans h.hp, (hc.block g (h.lt (.inr (.inl rfl))) hne.2.2).trans h.hg, cache_none hm 0, by decide, h.fu⟩
theorem setBlock_chg {w : World} {m : Nat} {es : Array MapEntry} {cl : Nat} (h : w.heap[m]? = some (.map es cl)) : (ChangeMaps.setBlock w m (.map #[] cl)).heap[m]? = some (.map #[] cl) ∧ Chg (fun b => b = m) w (ChangeMaps.setBlock w m (.map #[] cl)) :=
  ⟨ChangeMaps.heap_setBlock_same h _, ⟨rfl, rfl, rfl, by simp [ChangeMaps.setBlock], fun k _ hk => ChangeMaps.heap_setBlock_other h _ hk⟩⟩
end Go.Proofs.YtibepnilhmbpeaaDoor
namespace Go.Proofs.YtibepnilhmbpeaaDoor
set_option linter.unusedVariables false
set_option linter.unusedSimpArgs false
open Go.RowKit Go.Maps
set_option maxRecDepth 20000 in
set_option maxHeartbeats 400000 in
theorem flush_off (p g m : Nat) (S : List Sec) (C : Nat → List (List UInt8)) (V : Nat → Value) (off : Bool) (fuse : Int) (n : Nat) (w : World) (h : DK w p g m S C V off fuse n) (he : begE off fuse = 5) :
    Calls Tryd.prog 20 #[.pointer (some ⟨p, 0, none⟩)] w fun e w' => e = .returned (.int .i64 5) ∧ DK w' p g m S C V (begO off fuse) (begF off fuse) n ∧ w.grownBy w' (some p) := by
  have h0 : w.cell? ⟨p, 0, none⟩ = some (.slice (some ⟨g, 0, none⟩) S.length S.length) := by rw [cell_of_row _ _ 0 _ _ _ h.hp]; rfl
  have hpos : 0 < S.length := h.one
  have HBG : Hid _ := begin_t p _ _ off fuse w h.hp h.fu
  have HD : Hid _ := h
  clear h
  go_enter Tryd.func20, Tryd.ntmps20
  go_wp2_with (first
    | (go_at_call 42; refine (made_t p _ _ _ _ h0).mono ?_; rintro e w1 ⟨rfl, hq⟩; have hq := hq.symm; subst hq; rw [decide_eq_true hpos])
    | (go_at_call 43; refine Calls.mono HBG.out ?_; rintro e w2 ⟨rfl, hp2, hg2⟩; rw [he]))
  go_ret
  exact ⟨rfl, DK.begun HD.out hp2 hg2 (begF_le HD.out.fu), hg2⟩
set_option maxRecDepth 20000 in
set_option maxHeartbeats 800000 in
theorem flush_t (p g m : Nat) (S : List Sec) (C : Nat → List (List UInt8)) (V : Nat → Value) (off : Bool) (fuse : Int) (n : Nat) (w : World) (h : DK w p g m S C V off fuse n) (he : begE off fuse = 0) :
    Calls Tryd.prog 20 #[.pointer (some ⟨p, 0, none⟩)] w fun e w' => e = .returned (.int .i64 0) ∧ DK w' p g m (flushed S C) (fun _ => []) (fun _ => nilS) (begO off fuse) (begF off fuse) 0 ∧ Chg (fun b => b = p ∨ b = g ∨ b = m) w w' := by
  have h0 : w.cell? ⟨p, 0, none⟩ = some (.slice (some ⟨g, 0, none⟩) S.length S.length) := by rw [cell_of_row _ _ 0 _ _ _ h.hp]; rfl
  have hpos : 0 < S.length := h.one
  have HBG : Hid _ := begin_t p _ _ off fuse w h.hp h.fu
  have HD : Hid _ := h
  clear h
  go_enter Tryd.func20, Tryd.ntmps20
  go_wp2_with (first
    | (go_at_call 42; refine (made_t p _ _ _ _ h0).mono ?_; rintro e w1 ⟨rfl, hq⟩; have hq := hq.symm; subst hq; rw [decide_eq_true hpos])
    | (go_at_call 43; refine Calls.mono HBG.out ?_; rintro e w2 ⟨rfl, hp2, hg2⟩; rw [he]
       have hD2 : DK w2 p g m S C V (begO off fuse) (begF off fuse) n := DK.begun HD.out hp2 hg2 (begF_le HD.out.fu)
       obtain ⟨D, hDo, hDa, hDk⟩ := hD2.cache.own
       have hpm : w2.cell? ⟨p, 1, none⟩ = some (.map (some m)) := (by rw [cell_of_row _ _ 1 _ _ _ hp2]; rfl))
    | (at_range; refine wpList_range_own _ rfl _ 68 rfl 3 118 keyI Tryd.underlying68 selfR m n D rfl hDo ?_; intro w3 hrg3 hg3 hs3))
  go_frame
  obtain ⟨off2, ho2⟩ : ∃ o : Bool, o = begO off fuse := ⟨_, rfl⟩
  obtain ⟨fuse2, hf2⟩ : ∃ f : Int, f = begF off fuse := ⟨_, rfl⟩
  rw [← ho2, ← hf2] at hD2
  have HO2 : Hid _ := ho2
  have HF2 : Hid _ := hf2
  have hD3 : DK w3 p g m S C V off2 fuse2 n := hD2.kept (Chg.of_grown (F := fun _ => False) hg3 (fun b hb => by cases hb)) (fun _ _ hf => hf)
  have hlt2 : ∀ b, foot p g m V b → b < w2.heap.size := fun b hb => hD2.lt hb
  have hc3 : Chg (fun b => b = p ∨ b = g ∨ b = m) w w3 := (Chg.of_grown (F := fun b => b = p ∨ b = g ∨ b = m) hg2 (fun b hb => by cases hb; exact .inl rfl)).trans (Chg.of_grown (F := fun _ => False) hg3 (fun b hb => by cases hb)) (fun _ hf => hf.elim)
  have hs2 := hg2.size
  have hst : flP S C (Maps.has D) = S := flP_start S C _ (fun k hk hc => has_true_of_atKey (hDa k hc))
  obtain ⟨R, hR⟩ : ∃ R : Nat, R = w2.heap.size := ⟨_, rfl⟩
  rw [← hR] at hrg3 hlt2 ⊢
  have hRw : w.heap.size ≤ R := by omega
  have HDK : Hid _ := hDk
  have hmost := hD2.most
  have htxt := hD2.cache.txt
  have HTX : Hid _ := htxt
  clear ho2 hf2 hpm hp2 hDo hDa hDk hD2 hR hs3 htxt
  go_loopw [4] (fun _ wr => ∃ (left : Lit → Bool) (cnt : Nat), wr.ranges Tryd.prog 3 selfR m R n D left cnt ∧ DK wr p g m (flP S C left) C V off2 fuse2 n ∧ Chg (fun b => b = p ∨ b = g ∨ b = m) w wr) (fun _ wr => wr.rangeLeft m R)
  case atStart => exact ⟨_, _, hrg3, by rw [hst]; exact hD3, hc3⟩
  case round =>
    obtain ⟨left, cnt, hrg, hDw, hcw⟩ := hrel
    clear hrg3 hD3 hc3 hst
    go_wp2_with (first
      | (at_next; refine wpList_next_ranges _ rfl _ rfl 3 keyI selfR (Value.int .i64) (fun v : Value => v) (fun key kl hkey => by obtain ⟨x, rfl, _⟩ := Maps.keyOf_int_inv Tryd.underlying3 hkey; exact ⟨x, rfl⟩) (fun v y _ => ⟨v, rfl⟩) m R n D left cnt rfl hrg ?_ ?_))
    · intro _ hl0
      rw [flP_end S C left hl0] at hDw
      obtain ⟨es, cl, hes⟩ := hDw.cache.map_at
      have hclr := run_clear hes
      obtain ⟨hm4, hc4⟩ := setBlock_chg hes
      have hpm : wr.cell? ⟨p, 1, none⟩ = some (.map (some m)) := by rw [cell_of_row _ _ 1 _ _ _ hDw.hp]; rfl
      obtain ⟨w4, hw4⟩ : ∃ w4 : World, w4 = ChangeMaps.setBlock wr m (.map #[] cl) := ⟨_, rfl⟩
      rw [← hw4] at hm4 hc4
      have hclr' : ∀ ty, (Builtin.clear_ #[68] ty #[.map (some m)]).run Tryd.prog wr = .ok (.tuple #[]) w4 := by rw [hw4]; exact hclr
      clear hw4 hclr hes
      go_wp2
      go_ret
      refine ⟨rfl, ?_, ?_⟩
      · rw [← HO2.out, ← HF2.out]; exact hDw.cleared hm4 hc4
      · exact hcw.trans hc4 (fun k hk => .inl (.inr (.inr hk)))
    · intro x c kl yd yp w4 cnt4 hkey hlk hv hat hrg4 hltc hg4 hs4 hen
      obtain ⟨i, hiN, hkl, hci⟩ := HDK.out kl (has_true_of_atKey hat)
      have hxi : x = (i : Int) := by
        obtain ⟨x', e1, e2, _⟩ := Maps.keyOf_int_inv Tryd.underlying3 hkey
        cases e1
        rw [e2] at hkl
        exact (Lit.int.inj hkl).2
      subst hxi
      subst hkl
      have hD4 : DK w4 p g m (flP S C left) C V off2 fuse2 n := hDw.kept (Chg.of_grown (F := fun b => b = R) hg4 (fun b hb => by cases hb; rfl)) (fun b hb e => by subst e; exact Nat.lt_irrefl _ (hlt2 b hb))
      have hlen := flP_len S C left
      have hi' : i < (flP S C left).length := by rw [hlen]; exact hiN
      obtain ⟨a4, c4, hV4, hL4⟩ := hD4.looks i hi'
      obtain ⟨Y, hY⟩ : ∃ Y : List Value, Y = (presS (flP S C left)[i] (C i)).cells := ⟨_, rfl⟩
      have hfit : (presS (flP S C left)[i] (C i)).fit := presS_fit (hD4.fit _ (List.getElem_mem hi')) (hD4.cache.txt i)
      have HYl : Hid (Y.length = 129) := by unfold Hid; rw [hY]; exact Sec.cells_len hfit.1
      have HYs : Hid (Y.toArray.size = 129) := by unfold Hid; rw [List.size_toArray]; exact HYl.out
      have HY1 : Hid (∀ v ∈ Y, v.oneCell' = true) := by unfold Hid; rw [hY]; exact secV_one _ _
      have HIs : Hid ((Tryd.prog.info? 89).map (·.size) = some 129) := (zero_of_info info_sect).2
      have HPR : Hid (∀ u, Below w4.heap.size w4 u → Calls Tryd.prog 44 #[.pointer (some ⟨p, 0, none⟩), .int .i64 (i : Int)] u fun e w' => e = .returned (.agg Y.toArray) ∧ Below u.heap.size u w') := by
        intro u hu
        rw [hY]
        have hDu := hD4.below hu
        exact present_t p g m i _ a4 c4 (C i) u hDu.secAt hi' (by rw [cell_of_row _ _ 1 _ _ _ hDu.hp]; rfl) ⟨fun v hv => hL4.run v (below_next hu hv), hL4.len, hL4.few, hL4.lie.below hu⟩
      have hp0 : w4.cell? ⟨p, 0, none⟩ = some (.slice (some ⟨g, 0, none⟩) S.length S.length) := by rw [cell_of_row _ _ 0 _ _ _ hD4.hp, hlen]; rfl
      have hpg := hD4.ne.1
      have hi0 : (0 : Int) ≤ (i : Int) := by omega
      have hi1 : (i : Int) < (S.length : Int) := by omega
      have hpl : p < w4.heap.size := World.block_lt_of_cell? w4 _ hp0
      have HD4 : Hid _ := hD4
      have HY : Hid _ := hY
      have HFit : Hid _ := hfit
      clear hY hL4 hV4 hfit hD4
      go_wp2_with fail
      refine wp_region_noPanic ?_
      refine wp_region_held_drew (S := (fun u => u.cell? ⟨p, 0, none⟩ = some (.slice (some ⟨g, 0, none⟩) S.length S.length))) (by kernel_rfl) (by first | exact hp0 | exact (hb5.cell (p := ⟨p, 0, none⟩) hpl).trans hp0 | exact (setCells_grown g _ _ _).cell ((hb5.cell (p := ⟨p, 0, none⟩) hpl).trans hp0) (by simpa using hpg)) (fun hHeld => ?_)
      refine take_at (i := 0) 22 (v := ?_) rfl rfl (by kernel_rfl) (by kernel_rfl) (by kernel_rfl) (fun _ _ _ h => h) (by rfl) ?_ hHeld ?_
      rotate_left
      · (intro w hSw; (try dsimp only at hSw); go_simp; try with_reducible rfl)
      simp only [Act.put, List.setIfInBounds_toArray, List.set_cons_zero, List.set_cons_succ]
      refine take_at (i := 1) 23 (v := ?_) rfl rfl (by kernel_rfl) (by kernel_rfl) (by kernel_rfl) (fun _ _ _ h => h) (by rfl) ?_ hHeld ?_
      rotate_left
      · (intro w hSw; (try dsimp only at hSw); go_simp; try with_reducible rfl)
      simp only [Act.put, List.setIfInBounds_toArray, List.set_cons_zero, List.set_cons_succ]
      refine take_at (i := 2) 24 (v := ?_) rfl rfl (by kernel_rfl) (by kernel_rfl) (by kernel_rfl) (fun _ _ _ h => h) (by rfl) ?_ hHeld ?_
      rotate_left
      · (intro w hSw; (try dsimp only at hSw); go_simp; try with_reducible rfl)
      simp only [Act.put, List.setIfInBounds_toArray, List.set_cons_zero, List.set_cons_succ]
      refine take_at (i := 3) 25 (v := ?_) rfl rfl (by kernel_rfl) (by kernel_rfl) (by kernel_rfl) (fun _ _ _ h => h) (by rfl) ?_ hHeld ?_
      rotate_left
      · (intro w hSw; (try dsimp only at hSw); go_simp; try with_reducible rfl)
      simp only [Act.put, List.setIfInBounds_toArray, List.set_cons_zero, List.set_cons_succ]
      refine take_at (i := 4) 26 (v := ?_) rfl rfl (by kernel_rfl) (by kernel_rfl) (by kernel_rfl) (fun _ _ _ h => h) (by rfl) ?_ hHeld ?_
      rotate_left
      · (intro w hSw; (try dsimp only at hSw); go_simp; try with_reducible rfl)
      simp only [Act.put, List.setIfInBounds_toArray, List.set_cons_zero, List.set_cons_succ]
      refine take_at (i := 5) 27 (v := ?_) rfl rfl (by kernel_rfl) (by kernel_rfl) (by kernel_rfl) (fun _ _ _ h => h) (by rfl) ?_ hHeld ?_
      rotate_left
      · (intro w hSw; (try dsimp only at hSw); go_simp; try with_reducible rfl)
      simp only [Act.put, List.setIfInBounds_toArray, List.set_cons_zero, List.set_cons_succ]
      refine take_at (i := 6) 28 (v := ?_) rfl rfl (by kernel_rfl) (by kernel_rfl) (by kernel_rfl) (fun _ _ _ h => h) (by rfl) ?_ hHeld ?_
      rotate_left
      · (intro w hSw; (try dsimp only at hSw); go_simp; try with_reducible rfl)
      simp only [Act.put, List.setIfInBounds_toArray, List.set_cons_zero, List.set_cons_succ]
      refine run_at (i := 7) rfl (by kernel_rfl) (by rfl) (fun K hK => ?_)
      simp only [List.getElem_toArray, List.getElem_cons_zero, List.getElem_cons_succ]
      go_simp
      first | (go_at_call 44; refine Calls.mono (HPR.out _ (Below.refl _ _).drew) ?_; rintro e w5 ⟨rfl, hb5'⟩; have hb5 : Below w4.heap.size w4 w5 := below_next (Below.refl _ _).drew hb5')
      go_wp2_with fail
      refine hK.out _ _ (by first | exact hp0 | exact (hb5.cell (p := ⟨p, 0, none⟩) hpl).trans hp0 | exact (setCells_grown g _ _ _).cell ((hb5.cell (p := ⟨p, 0, none⟩) hpl).trans hp0) (by simpa using hpg)) ?_
      clear hK K
      intro hHeld2
      clear hHeld
      have hHeld := hHeld2
      clear hHeld2
      try simp only [Act.put, List.setIfInBounds_toArray, List.set_cons_zero, List.set_cons_succ]
      refine take_at (i := 8) 30 (v := ?_) rfl rfl (by kernel_rfl) (by kernel_rfl) (by kernel_rfl) (fun _ _ _ h => h) (by rfl) ?_ hHeld ?_
      rotate_left
      · (intro w hSw; (try dsimp only at hSw); go_simp; try with_reducible rfl)
      simp only [Act.put, List.setIfInBounds_toArray, List.set_cons_zero, List.set_cons_succ]
      refine run_at (i := 9) rfl (by kernel_rfl) (by rfl) (fun K hK => ?_)
      simp only [List.getElem_toArray, List.getElem_cons_zero, List.getElem_cons_succ]
      refine wp_store_mid 89 _ _ rfl g (i * 129) Y.toArray rfl rfl (by rw [HYs.out]; exact secs_there (fit_ok (DK.below HD4.out hb5).fit) (DK.below HD4.out hb5).hg i hi') (by rw [HIs.out, HYs.out]) (all_oneCell_toArray HY1.out) ?_
      refine hK.out _ _ (by first | exact hp0 | exact (hb5.cell (p := ⟨p, 0, none⟩) hpl).trans hp0 | exact (setCells_grown g _ _ _).cell ((hb5.cell (p := ⟨p, 0, none⟩) hpl).trans hp0) (by simpa using hpg)) ?_
      clear hK K
      intro hHeld2
      clear hHeld
      have hHeld := hHeld2
      clear hHeld2
      try simp only [Act.put, List.setIfInBounds_toArray, List.set_cons_zero, List.set_cons_succ]
      refine wpAnyH_done (by kernel_rfl) ?_ _
      refine NoPanic.normal ?_
      go_wp2
      go_roundw
      case rel =>
        have hD5 := DK.below HD4.out hb5
        have hD6 := hD5.setSec i hi' _ HFit.out
        rw [flP_step S C left i hi' hmost hlk, ← HY.out] at hD6
        have hRg : R ≠ g := by have := hlt2 g (.inr (.inl rfl)); omega
        have hmg : m ≠ g := fun e => hD5.ne.2.2 e.symm
        have hrg9 := (hrg4.kept (gr_below (World.grownBy.refl w4 none) hb5) (by simp) (by simp)).kept (setCells_grown g Y (i * 129) w5) (by simpa using hmg) (by simpa using hRg)
        first | refine ⟨_, cnt4, hrg9, hD6, ?_⟩ | refine ⟨_, ⟨cnt4, hrg9⟩, hD6, ?_⟩
        refine ((hcw.trans (Chg.of_grown (F := fun b => b = R) hg4 (fun b hb => by cases hb; rfl)) (fun k hk => .inr (by rw [hk]; exact hRw))).trans (Chg.of_below (F := fun _ => False) hb5) (fun _ hf => hf.elim)).trans (Chg.of_grown (F := fun b => b = g) (setCells_grown g Y (i * 129) w5) (fun b hb => by cases hb; rfl)) (fun k hk => .inl (.inr (.inl hk)))
      case measure =>
        have h6 := (hrg4.kept (gr_below (World.grownBy.refl w4 none) hb5) (by simp) (by simp)).kept (setCells_grown g Y (i * 129) w5) (by have := (DK.below HD4.out hb5).ne.2.2; simpa using this.symm) (by have := hlt2 g (.inr (.inl rfl)); simp; omega)
        rw [h6.left_eq, hrg.left_eq]
        exact hltc
end Go.Proofs.YtibepnilhmbpeaaDoor
namespace Go.Proofs.YtibepnilhmbpeaaDoor
set_option linter.unusedVariables false
set_option linter.unusedSimpArgs false
open Go.RowKit
set_option maxRecDepth 20000 in
theorem down_t (p : Nat) (a : Option Addr) (n c : Nat) (off : Bool) (w : World) (hn : 0 < n) (h0 : w.cell? ⟨p, 0, none⟩ = some (.slice a n c)) (h2 : w.cell? ⟨p, 2, none⟩ = some (.bool off)) : Calls Tryd.prog 34 #[.pointer (some ⟨p, 0, none⟩)] w fun e w' => e = .returned (.bool off) ∧ w' = w := by
  go_enter Tryd.func34, Tryd.ntmps34
  go_wp2_with (go_at_call 42; refine (made_t p a n c _ h0).mono ?_; rintro e w1 ⟨rfl, hq⟩; have hq := hq.symm; subst hq; rw [decide_eq_true hn])
  go_ret
  exact ⟨rfl, rfl⟩
end Go.Proofs.YtibepnilhmbpeaaDoor
