import Derived.Test.YtgdkiejlggiakaaDWrt
namespace Go.Proofs.Ytgdkiejlggiakaa
set_option linter.unusedVariables false
set_option linter.unusedSimpArgs false
open Go.RowKit Go.Maps
theorem DK.begun {w w' : World} {p g m : Nat} {S : List Sec} {C : Nat → List (List UInt8)} {V : Nat → Value} {off off' : Bool} {fuse fuse' : Int} {n : Nat} (h : DK w p g m S C V off fuse n)
    (hp : w'.heap[p]? = some (.cells #[.slice (some ⟨g, 0, none⟩) S.length S.length, .map (some m), .bool off', .int .i64 fuse'] 57 (0, 0))) (hg : w.grownBy w' (some p)) (hf : fuse' ≤ 9223372036854775807) : DK w' p g m S C V off' fuse' n := by
  have hne := h.ne
  have hc : Chg (fun b => b = p) w w' := Chg.of_grown hg (fun b hb => by cases hb; rfl)
  exact ⟨h.fit, h.one, h.most, hp, (hc.block g (Array.getElem?_eq_some_iff.1 h.hg).1 (fun e => hne.1 e.symm)).trans h.hg, h.cache.kept hc (fun e => hne.2.1 e.symm) (fun i b hb e => by subst e; exact (h.apartV i).1 hb), h.few, hf⟩
theorem begF_le {off : Bool} {fuse : Int} (h : fuse ≤ 9223372036854775807) : begF off fuse ≤ 9223372036854775807 := by
  unfold begF
  split
  · decide
  · split
    · exact h
    · split <;> omega
set_option maxRecDepth 20000 in
theorem write_out (p : Nat) (a : Option Addr) (n c : Nat) (i : Int) (ba : Option Addr) (bl bc : Nat) (w : World) (h0 : w.cell? ⟨p, 0, none⟩ = some (.slice a n c)) (h : inB i n = false) :
    Calls Try.prog 16 #[.pointer (some ⟨p, 0, none⟩), .int .i64 i, .slice ba bl bc] w fun e w' => e = .returned (.int .i64 1) ∧ w' = w := by
  go_enter Try.func16, Try.ntmps16
  go_wp2_with (go_at_call 30; refine (has_t p a n c i _ h0).mono ?_; rintro e w1 ⟨rfl, hq⟩; have hq := hq.symm; subst hq; rw [h])
  go_ret
  exact ⟨rfl, rfl⟩
set_option maxRecDepth 20000 in
theorem write_len (p : Nat) (a : Option Addr) (n c : Nat) (i : Int) (ba : Option Addr) (bl bc : Nat) (w : World) (h0 : w.cell? ⟨p, 0, none⟩ = some (.slice a n c)) (hl : bl ≠ 128) :
    Calls Try.prog 16 #[.pointer (some ⟨p, 0, none⟩), .int .i64 i, .slice ba bl bc] w fun e w' => e = .returned (.int .i64 1) ∧ w' = w := by
  have hi : ¬ (bl : Int) = 128 := by omega
  cases h : inB i n
  all_goals
    go_enter Try.func16, Try.ntmps16
    go_wp2_with (go_at_call 30; refine (has_t p a n c i _ h0).mono ?_; rintro e w1 ⟨rfl, hq⟩; have hq := hq.symm; subst hq; rw [h])
    go_ret
    exact ⟨rfl, rfl⟩
set_option maxRecDepth 20000 in
theorem write_nil (i : Int) (ba : Option Addr) (bl bc : Nat) (w : World) : Calls Try.prog 16 #[.pointer none, .int .i64 i, .slice ba bl bc] w fun e w' => e = .returned (.int .i64 1) ∧ w' = w := by
  go_enter Try.func16, Try.ntmps16
  go_wp2_with (go_at_call 30; refine (has_nil i _).mono ?_; rintro e w1 ⟨rfl, hq⟩; have hq := hq.symm; subst hq)
  go_ret
  exact ⟨rfl, rfl⟩
set_option maxRecDepth 20000 in
set_option maxHeartbeats 400000 in
theorem write_off (p g m i : Nat) (S : List Sec) (C : Nat → List (List UInt8)) (V : Nat → Value) (off : Bool) (fuse : Int) (n : Nat) (ba : Option Addr) (bc : Nat) (w : World) (h : DK w p g m S C V off fuse n) (hi : i < S.length) (he : begE off fuse = 5) :
    Calls Try.prog 16 #[.pointer (some ⟨p, 0, none⟩), .int .i64 (i : Int), .slice ba 128 bc] w fun e w' => e = .returned (.int .i64 5) ∧ DK w' p g m S C V (begO off fuse) (begF off fuse) n ∧ w.grownBy w' (some p) := by
  have h0 : w.cell? ⟨p, 0, none⟩ = some (.slice (some ⟨g, 0, none⟩) S.length S.length) := by rw [cell_of_row _ _ 0 _ _ _ h.hp]; rfl
  have hin : inB (i : Int) S.length = true := by simp [inB]; omega
  have HBG : Hid _ := begin_t p _ _ off fuse w h.hp h.fu
  have HD : Hid _ := h
  clear h
  go_enter Try.func16, Try.ntmps16
  go_wp2_with (first
    | (go_at_call 30; refine (has_t p _ _ _ i _ h0).mono ?_; rintro e w1 ⟨rfl, hq⟩; have hq := hq.symm; subst hq; rw [hin])
    | (go_at_call 33; refine Calls.mono HBG.out ?_; rintro e w2 ⟨rfl, hp2, hg2⟩; rw [he]))
  go_ret
  exact ⟨rfl, DK.begun HD.out hp2 hg2 (begF_le HD.out.fu), hg2⟩
theorem flatT_snoc (vs : List (List UInt8)) (t : List UInt8) : flatT (vs ++ [t]) = flatT vs ++ bv t := by simp [flatT]
theorem infoT : (Try.prog.info? 59).map (fun i => (i.zero, i.size, i.bytes)) = some (some (.agg z128), 128, 128) := by kernel_rfl
/-- the cache behind a write: what the map and the new row are -/
theorem CacheAt.put {w w' : World} {m N n : Nat} {C : Nat → List (List UInt8)} {V : Nat → Value} (h : CacheAt w m N n C V) (i : Nat) (hi : i < N) (hN : N ≤ 65536) (xs : List UInt8) (hx : xs.length = 128) (v : Value) {F : Nat → Prop} (hc : Chg F w w')
    (hF : ∀ b, F b → b = m ∨ (V i).ownBlock = some b) {D : DataW Value} (hD : w.ownsMap Try.prog 3 selfR m n D ∧ (∀ j, C j ≠ [] → ∀ z, D.atKey (kI j) z = .held (V j)) ∧ (∀ kl, Maps.has D kl = true → ∃ j, j < N ∧ kl = kI j ∧ C j ≠ []))
    (hm : w'.ownsMap Try.prog 3 selfR m (n + 1) (D.put (kI i) (.held v))) (hr : w'.ownsRow 0 59 128 v ((C i).length + 1) (flatT (C i ++ [xs]))) (hv : (V i).ownBlock = v.ownBlock ∨ ∃ b, v.ownBlock = some b ∧ w.heap.size ≤ b) :
    CacheAt w' m N (n + 1) (upd C i (C i ++ [xs])) (upd V i v) := by
  have hfar : ∀ j, j ≠ i → ∀ b, (V j).ownBlock = some b → ¬ F b := by
    intro j hj b hb hf
    rcases hF b hf with rfl | h1
    · exact h.apart_m j hb
    · exact hj (h.apart j i b hb h1)
  have hnew : ∀ j, j ≠ i → ∀ b, (V j).ownBlock = some b → v.ownBlock ≠ some b := by
    intro j hj b hb he
    rcases hv with h1 | ⟨b', h1, h2⟩
    · exact hj (h.apart j i b hb (h1.trans he))
    · rw [h1] at he
      cases he
      obtain ⟨cur, h3⟩ := row_at (h.rows j) hb
      have := (Array.getElem?_eq_some_iff.1 h3).1
      omega
  refine ⟨⟨_, hm, fun j hj z => ?_, fun kl hk => ?_⟩, fun j hj => ?_, fun j => ?_, fun j t ht => ?_, fun j k b h1 h2 => ?_, fun j => ?_, fun j hj => ?_⟩
  · by_cases e : j = i
    · subst e
      rw [upd_same]
      exact atKey_put_same (World.ownsMap.isMap hD.1) (kI_key (by omega)) _ z
    · rw [upd_other _ e] at hj ⊢
      rw [atKey_put_other (kI_ne e)]
      exact hD.2.1 j hj z
  · by_cases e : kl = kI i
    · exact ⟨i, hi, e, by rw [upd_same]; simp⟩
    · rw [has_put_other e] at hk
      obtain ⟨j, h1, h2, h3⟩ := hD.2.2 kl hk
      refine ⟨j, h1, h2, ?_⟩
      by_cases e2 : j = i
      · subst e2; exact absurd h2 e
      · rw [upd_other _ e2]; exact h3
  · by_cases e : j = i
    · subst e; rw [upd_same] at hj; simp at hj
    · rw [upd_other _ e] at hj ⊢; exact h.nil j hj
  · by_cases e : j = i
    · subst e; rw [upd_same, upd_same, List.length_append]; exact hr
    · rw [upd_other _ e, upd_other _ e]
      refine ⟨(h.rows j).1, ?_⟩
      rcases (h.rows j).2 with h0 | ⟨g, cap, cur, e1, hB, hg, r⟩
      · exact .inl h0
      · exact .inr ⟨g, cap, cur, e1, hB, (hc.block g (Array.getElem?_eq_some_iff.1 hg).1 (hfar j e g (by rw [e1]; rfl))).trans hg, r⟩
  · by_cases e : j = i
    · subst e; rw [upd_same] at ht
      rcases List.mem_append.1 ht with h1 | h1
      · exact h.txt j t h1
      · rw [List.mem_singleton.1 h1]; exact hx
    · rw [upd_other _ e] at ht; exact h.txt j t ht
  · by_cases e1 : j = i
    · by_cases e2 : k = i
      · omega
      · rw [upd_other _ e2] at h2
        subst e1
        rw [upd_same] at h1
        exact absurd h1 (hnew k e2 b h2)
    · rw [upd_other _ e1] at h1
      by_cases e2 : k = i
      · subst e2
        rw [upd_same] at h2
        exact absurd h2 (hnew j e1 b h1)
      · rw [upd_other _ e2] at h2
        exact h.apart j k b h1 h2
  · by_cases e : j = i
    · subst e; rw [upd_same, List.length_append]; have := h.few j; simp; omega
    · rw [upd_other _ e]; have := h.few j; omega
  · by_cases e : j = i
    · subst e; exact hi
    · rw [upd_other _ e] at hj; exact h.ins j hj
theorem write_post {w w2 w4 w5 w6 : World} {p g m i n : Nat} {S : List Sec} {C : Nat → List (List UInt8)} {V : Nat → Value} {off : Bool} {fuse : Int} {D : DataW Value} {a : Option Addr} {c : Nat} {xs : List UInt8} {g5 cap5 : Nat} {X : Array Value}
    (h : DK w2 p g m S C V off fuse n) (hD : w2.ownsMap Try.prog 3 selfR m n D ∧ (∀ j, C j ≠ [] → ∀ z, D.atKey (kI j) z = .held (V j)) ∧ (∀ kl, Maps.has D kl = true → ∃ j, j < S.length ∧ kl = kI j ∧ C j ≠ [])) (hV : V i = .slice a (C i).length c) (hi : i < S.length) (hn : n < 1099511627776)
    (hown : w5.ownsRow 0 59 128 (.slice (some ⟨g5, 0, none⟩) ((C i).length + 1) cap5) ((C i).length + 1) (flatT (C i) ++ bv xs)) (hx : xs.length = 128) (hb4 : Below w2.heap.size w2 w4) (hg5 : (w4.alloc (.cells X 59)).grownBy w5 (Value.slice a (C i).length c).ownBlock)
    (hat : (Value.slice a (C i).length c).ownBlock = some g5 ∨ g5 = (w4.alloc (.cells X 59)).heap.size) (hlt : g5 < w5.heap.size) (hm6 : w6.ownsMap Try.prog 3 selfR m (n + 1) (D.put (kI i) (.held (.slice (some ⟨g5, 0, none⟩) ((C i).length + 1) cap5)))) (hg6 : w5.grownBy w6 (some m)) (hg2 : w.grownBy w2 (some p)) :
    ∃ v, DK w6 p g m S (upd C i (C i ++ [xs])) (upd V i v) off fuse (n + 1) ∧ Chg (fun b => b = p ∨ b = m ∨ (V i).ownBlock = some b) w w6 ∧ ((V i).ownBlock = v.ownBlock ∨ ∃ b, v.ownBlock = some b ∧ w.heap.size ≤ b) := by
  rw [← hV] at hg5 hat
  have hb5 : Below w2.heap.size w2 (w4.alloc (.cells X 59)) := al hb4 _
  have hmlt : m < w2.heap.size := h.lt (.inr (.inr (.inl rfl)))
  have hc : Chg (fun b => b = m ∨ (V i).ownBlock = some b) w2 w6 :=
    ((Chg.of_below hb5).trans (Chg.of_grown hg5 (fun b hb => .inr hb)) (fun k hk => .inl hk)).trans (Chg.of_grown (F := fun b => b = m ∨ (V i).ownBlock = some b) hg6 (fun b hb => by cases hb; exact .inl rfl)) (fun k hk => .inl hk)
  have hgm : g5 ≠ m := by
    rcases hat with h1 | h1
    · intro e; subst e; exact h.cache.apart_m i h1
    · have := hb5.size; omega
  have hrow6 : w6.ownsRow 0 59 128 (.slice (some ⟨g5, 0, none⟩) ((C i).length + 1) cap5) ((C i).length + 1) (flatT (C i ++ [xs])) := by
    rw [flatT_snoc]
    exact World.ownsRow.kept hown hg6 (.inr (by simpa [Value.ownBlock] using hgm))
  have hv : (V i).ownBlock = (Value.slice (some ⟨g5, 0, none⟩) ((C i).length + 1) cap5).ownBlock ∨ ∃ b, (Value.slice (some ⟨g5, 0, none⟩) ((C i).length + 1) cap5).ownBlock = some b ∧ w2.heap.size ≤ b := by
    rcases hat with h1 | h1
    · exact .inl h1
    · exact .inr ⟨g5, rfl, by have := hb5.size; omega⟩
  refine ⟨.slice (some ⟨g5, 0, none⟩) ((C i).length + 1) cap5, ?_, ?_, ?_⟩
  · have hne := h.ne
    have hap := h.apartV i
    refine ⟨h.fit, h.one, h.most, ?_, ?_, h.cache.put i hi h.most xs hx _ hc (fun b hb => hb) hD hm6 hrow6 hv, by omega, h.fu⟩
    · exact (hc.block p (h.lt (.inl rfl)) (fun e => e.elim hne.2.1 hap.1)).trans h.hp
    · exact (hc.block g (h.lt (.inr (.inl rfl))) (fun e => e.elim hne.2.2 hap.2.1)).trans h.hg
  · exact (Chg.of_grown (F := fun b => b = p ∨ b = m ∨ (V i).ownBlock = some b) hg2 (fun b hb => by cases hb; exact .inl rfl)).trans hc (fun k hk => .inl (.inr hk))
  · rcases hv with h1 | ⟨b, h1, h2⟩
    · exact .inl h1
    · exact .inr ⟨b, h1, Nat.le_trans hg2.size h2⟩
set_option maxRecDepth 20000 in
set_option maxHeartbeats 800000 in
theorem write_t (p g m i : Nat) (S : List Sec) (C : Nat → List (List UInt8)) (V : Nat → Value) (off : Bool) (fuse : Int) (n : Nat) (ba : Option Addr) (bc : Nat) (xs : List UInt8) (w : World) (h : DK w p g m S C V off fuse n) (hn : n < 1099511627776) (hi : i < S.length) (he : begE off fuse = 0) (hx : Rd w ba xs) (hl : xs.length = 128) (hbp : ∀ a, ba = some a → a.block ≠ p) :
    Calls Try.prog 16 #[.pointer (some ⟨p, 0, none⟩), .int .i64 (i : Int), .slice ba 128 bc] w fun e w' => e = .returned (.int .i64 0) ∧ ∃ v, DK w' p g m S (upd C i (C i ++ [xs])) (upd V i v) (begO off fuse) (begF off fuse) (n + 1) ∧ Chg (fun b => b = p ∨ b = m ∨ (V i).ownBlock = some b) w w' ∧ ((V i).ownBlock = v.ownBlock ∨ ∃ b, v.ownBlock = some b ∧ w.heap.size ≤ b) := by
  have h0 : w.cell? ⟨p, 0, none⟩ = some (.slice (some ⟨g, 0, none⟩) S.length S.length) := by rw [cell_of_row _ _ 0 _ _ _ h.hp]; rfl
  have hin : inB (i : Int) S.length = true := by simp [inB]; omega
  have HBG : Hid _ := begin_t p _ _ off fuse w h.hp h.fu
  have HD : Hid _ := h
  have HX : Hid _ := hx
  have HI : Hid (i < S.length) := hi
  obtain ⟨X, hX⟩ : ∃ X : List Value, X = bv xs := ⟨_, rfl⟩
  have HXe : Hid (X = bv xs) := hX
  have HXl : Hid (X.length = 128) := by unfold Hid; rw [hX, bv_length, hl]
  have HX1 : Hid (∀ v ∈ X, v.oneCell' = true) := by unfold Hid; rw [hX]; exact bv_one xs
  obtain ⟨a, c, hVi, -⟩ := h.looks i hi
  have HVi : Hid (V i = _) := hVi
  clear h hx hX hVi
  go_enter Try.func16, Try.ntmps16
  go_wp2_with (first
    | (go_at_call 30; refine (has_t p _ _ _ i _ h0).mono ?_; rintro e w1 ⟨rfl, hq⟩; have hq := hq.symm; subst hq; rw [hin])
    | (go_at_call 33; refine Calls.mono HBG.out ?_; rintro e w2 ⟨rfl, hp2, hg2⟩; rw [he]))
  have hD2 : DK w2 p g m S C V (begO off fuse) (begF off fuse) n := DK.begun HD.out hp2 hg2 (begF_le HD.out.fu)
  have hx2 : Rd w2 ba xs := Rd.grown HX.out hg2 (fun q hq => by have := hbp q hq; simpa using this)
  have hs2 := hg2.size
  obtain ⟨a', c', hV', hL⟩ := hD2.looks i HI.out
  obtain ⟨rfl, -, rfl⟩ : a = a' ∧ (C i).length = (C i).length ∧ c = c' := by have := HVi.out.symm.trans hV'; simpa using this
  have hlk := hL.run w2.drew (Below.refl _ _).drew
  have hlk2 : ∀ u, Below w2.heap.size w2 u → (Instr.lookup 55 (.map (some m)) (.int .i64 (i : Int)) false).run Try.prog u = .ok (.slice a (C i).length c) u := hL.run
  have HLK2 : Hid _ := hlk2
  have HLK : Hid _ := hlk
  have HD2 : Hid _ := hD2
  have HX2 : Hid _ := hx2
  have hpm : w2.cell? ⟨p, 1, none⟩ = some (.map (some m)) := by rw [cell_of_row _ _ 1 _ _ _ hp2]; rfl
  have hpl : p < w2.heap.size := World.block_lt_of_cell? w2 _ hpm
  have hmne : m ≠ p := fun e => hD2.ne.2.1 e.symm
  have hvne : (V i).ownBlock ≠ some p := (hD2.apartV i).1
  have hvne2 : (Value.slice a (C i).length c).ownBlock ≠ some p := by rw [← HVi.out]; exact hvne
  have HTX : Hid (∀ u, Below w2.heap.size w2 u → Calls Try.prog 34 #[.slice ba 128 bc] u fun e w' => e = .returned (.agg X.toArray) ∧ Below u.heap.size u w') := by
    intro u hu
    rw [HXe.out]
    exact textOf_t ba bc xs u (Rd.below HX2.out hu) hl
  obtain ⟨i0, hi0, hz0, hz1, hz2⟩ := info_parts infoT
  obtain ⟨D, hDm⟩ := hD2.cache.own
  have HDm : Hid _ := hDm
  have hfew := hD2.cache.few i
  have HI0 : Hid (_ ∧ _ ∧ _ ∧ _) := ⟨hi0, hz0, hz1, hz2⟩
  clear hlk hlk2 hL hV' hD2 hDm hi0 hz0 hz1 hz2 hx2
  go_wp2_with fail
  refine wp_region_noPanic ?_
  refine wp_region_held_drew (S := (fun u => u.cell? ⟨p, 1, none⟩ = some (.map (some m)))) (by kernel_rfl) (by first | exact hpm | exact (hb4.cell (p := ⟨p, 1, none⟩) hpl).trans hpm | exact ((al hb4 _).cell (p := ⟨p, 1, none⟩) hpl).trans hpm | exact hg5.cell (((al hb4 _).cell (p := ⟨p, 1, none⟩) hpl).trans hpm) (by simpa using hvne2.symm) | exact hg6.cell (hg5.cell (((al hb4 _).cell (p := ⟨p, 1, none⟩) hpl).trans hpm) (by simpa using hvne2.symm)) (by simpa using hmne.symm)) (fun hHeld => ?_)
  refine take_at (i := 0) 22 (v := ?_) rfl rfl (by kernel_rfl) (by kernel_rfl) (by kernel_rfl) (fun _ _ _ h => h) (by rfl) ?_ hHeld ?_
  rotate_left
  · (intro w hSw; (try dsimp only at hSw); go_simp; try with_reducible rfl)
  simp only [Act.put, List.setIfInBounds_toArray, List.set_cons_zero, List.set_cons_succ]
  refine take_at (i := 1) 23 (v := ?_) rfl rfl (by kernel_rfl) (by kernel_rfl) (by kernel_rfl) (fun _ _ _ h => h) (by rfl) ?_ hHeld ?_
  rotate_left
  · (intro w hSw; (try dsimp only at hSw); go_simp; try with_reducible rfl)
  simp only [Act.put, List.setIfInBounds_toArray, List.set_cons_zero, List.set_cons_succ]
  refine take_at (i := 2) 24 (v := ?_) rfl rfl (by kernel_rfl) (by kernel_rfl) (by kernel_rfl) (fun _ _ _ h => h) (by rfl) ?_ hHeld ?_
  rotate_left
  · (intro w hSw; (try dsimp only at hSw); go_simp; try with_reducible rfl)
  simp only [Act.put, List.setIfInBounds_toArray, List.set_cons_zero, List.set_cons_succ]
  refine take_at (i := 3) 25 (v := ?_) rfl rfl (by kernel_rfl) (by kernel_rfl) (by kernel_rfl) (fun _ _ _ h => h) (by rfl) ?_ hHeld ?_
  rotate_left
  · (intro w hSw; (try dsimp only at hSw); go_simp; try with_reducible rfl)
  simp only [Act.put, List.setIfInBounds_toArray, List.set_cons_zero, List.set_cons_succ]
  refine take_at (i := 4) 26 (v := ?_) rfl rfl (by kernel_rfl) (by kernel_rfl) (by kernel_rfl) (fun _ _ _ h => h) (by rfl) ?_ hHeld ?_
  rotate_left
  · (intro w hSw; (try dsimp only at hSw); go_simp; try with_reducible rfl)
  simp only [Act.put, List.setIfInBounds_toArray, List.set_cons_zero, List.set_cons_succ]
  refine take_at (i := 5) 27 (v := ?_) rfl rfl (by kernel_rfl) (by kernel_rfl) (by kernel_rfl) (fun _ _ _ h => h) (by rfl) ?_ hHeld ?_
  rotate_left
  · (intro w hSw; (try dsimp only at hSw); go_simp; try with_reducible rfl)
  simp only [Act.put, List.setIfInBounds_toArray, List.set_cons_zero, List.set_cons_succ]
  refine take_at (i := 6) 28 (v := ?_) rfl rfl (by kernel_rfl) (by kernel_rfl) (by kernel_rfl) (fun _ _ _ h => h) (by rfl) ?_ hHeld ?_
  rotate_left
  · (intro w hSw; (try dsimp only at hSw); go_simp; try with_reducible rfl)
  simp only [Act.put, List.setIfInBounds_toArray, List.set_cons_zero, List.set_cons_succ]
  refine take_at (i := 7) 29 (v := ?_) rfl rfl (by kernel_rfl) (by kernel_rfl) (by kernel_rfl) (fun _ _ _ h => h) (by rfl) ?_ hHeld ?_
  rotate_left
  · (intro w hSw; (try dsimp only at hSw); go_simp; try with_reducible rfl)
  simp only [Act.put, List.setIfInBounds_toArray, List.set_cons_zero, List.set_cons_succ]
  refine take_at (i := 8) 30 (v := ?_) rfl rfl (by kernel_rfl) (by kernel_rfl) (by kernel_rfl) (fun _ _ _ h => h) (by rfl) ?_ hHeld ?_
  rotate_left
  · (intro w hSw; (try dsimp only at hSw); go_simp; try with_reducible rfl)
  simp only [Act.put, List.setIfInBounds_toArray, List.set_cons_zero, List.set_cons_succ]
  refine take_at (i := 9) 31 (v := ?_) rfl rfl (by kernel_rfl) (by kernel_rfl) (by kernel_rfl) (fun _ _ _ h => h) (by rfl) ?_ hHeld ?_
  rotate_left
  · (intro w hSw; (try dsimp only at hSw); go_simp; try with_reducible rfl)
  simp only [Act.put, List.setIfInBounds_toArray, List.set_cons_zero, List.set_cons_succ]
  refine take_at (i := 11) 33 (v := ?_) rfl rfl (by kernel_rfl) (by kernel_rfl) (by kernel_rfl) (fun _ _ _ h => h) (by rfl) ?_ hHeld ?_
  rotate_left
  · (intro w hSw; (try dsimp only at hSw); go_simp; try with_reducible rfl)
  simp only [Act.put, List.setIfInBounds_toArray, List.set_cons_zero, List.set_cons_succ]
  refine wpAnyH_ready (rs := [10, 12]) (by kernel_rfl) (by simp) ?_
  refine AllReadyH.cons (o := _) rfl (fun K hK => ?_) ?_
  focus
    rw [if_pos (by rfl)]
    refine val_wp 32 (v := .slice a (C i).length c) rfl ?_ ?_
    · (refine exec_lookup (by rfl) ?_; exact HLK.out)
    refine hK.out _ _ (by first | exact hpm | exact (hb4.cell (p := ⟨p, 1, none⟩) hpl).trans hpm | exact ((al hb4 _).cell (p := ⟨p, 1, none⟩) hpl).trans hpm | exact hg5.cell (((al hb4 _).cell (p := ⟨p, 1, none⟩) hpl).trans hpm) (by simpa using hvne2.symm) | exact hg6.cell (hg5.cell (((al hb4 _).cell (p := ⟨p, 1, none⟩) hpl).trans hpm) (by simpa using hvne2.symm)) (by simpa using hmne.symm)) ?_
    clear hK K
    intro hHeld2
    clear hHeld
    have hHeld := hHeld2
    clear hHeld2
    simp only [Act.put, List.setIfInBounds_toArray, List.set_cons_zero, List.set_cons_succ]
    refine run_at (i := 12) rfl (by kernel_rfl) (by rfl) (fun K hK => ?_)
    simp only [List.getElem_toArray, List.getElem_cons_zero, List.getElem_cons_succ]
    go_simp
    first | (go_at_call 34; refine Calls.mono (HTX.out _ (Below.refl _ _).drew) ?_; rintro e w4 ⟨rfl, hb4'⟩; have hb4 : Below w2.heap.size w2 w4 := below_next (Below.refl _ _).drew hb4') | (refine wp_bs _ (by rfl) X (by rfl) HXl.out ?_) | (refine wp_append_lies _ _ _ 70 (by rfl) 0 59 i0 (.agg z128) 128 128 Try.underlying70 HI0.out.1 HI0.out.2.1 HI0.out.2.2.1 HI0.out.2.2.2 rfl (by decide) (.slice a (C i).length c) (C i).length (flatT (C i)) (by rfl) (by rw [← HVi.out]; exact (HD2.out.below (al hb4 _)).cache.rows i) ⟨w4.heap.size, 0, none⟩ 1 1 X (by rfl) (by rw [HXl.out]) (World.news_of_block (heap_alloc_new w4 _)) HX1.out (by decide) (by simp only [maxLen]; omega) (by omega) (Nat.zero_le _) _ rfl ?_; intro g5 cap5 w5 hown5 hg5 hat5 hlt5) | (obtain ⟨w6, hr6, hm6, hg6⟩ := World.ownsMap.update (World.ownsMap.kept (row := (Value.slice a (C i).length c).ownBlock) (World.ownsMap.alloc (World.ownsMap.kept (row := none) HDm.out.1 (gr_below (World.grownBy.refl w2 none) hb4) (by simp)) (.cells X.toArray 59)) hg5 (by have := (HD2.out.apartV i).2.2; rw [HVi.out] at this; exact fun e => this e.symm)) keyI Try.underlying55 (by simp only [maxLen]; omega) (kI_of (i := i) (by have := HD2.out.most; have := HI.out; omega)) (show selfR (.slice (some ⟨g5, 0, none⟩) ((C i).length + 1) cap5) = some (.held _, []) from rfl); refine wp_mapUp 55 _ _ _ (by rfl) w6 (by exact hr6) ?_)
    go_wp2_with fail
    refine hK.out _ _ (by first | exact hpm | exact (hb4.cell (p := ⟨p, 1, none⟩) hpl).trans hpm | exact ((al hb4 _).cell (p := ⟨p, 1, none⟩) hpl).trans hpm | exact hg5.cell (((al hb4 _).cell (p := ⟨p, 1, none⟩) hpl).trans hpm) (by simpa using hvne2.symm) | exact hg6.cell (hg5.cell (((al hb4 _).cell (p := ⟨p, 1, none⟩) hpl).trans hpm) (by simpa using hvne2.symm)) (by simpa using hmne.symm)) ?_
    clear hK K
    intro hHeld2
    clear hHeld
    have hHeld := hHeld2
    clear hHeld2
    try simp only [Act.put, List.setIfInBounds_toArray, List.set_cons_zero, List.set_cons_succ]
    refine run_at (i := 13) rfl (by kernel_rfl) (by rfl) (fun K hK => ?_)
    simp only [List.getElem_toArray, List.getElem_cons_zero, List.getElem_cons_succ]
    first | (go_at_call 34; refine Calls.mono (HTX.out _ (Below.refl _ _).drew) ?_; rintro e w4 ⟨rfl, hb4'⟩; have hb4 : Below w2.heap.size w2 w4 := below_next (Below.refl _ _).drew hb4') | (refine wp_bs _ (by rfl) X (by rfl) HXl.out ?_) | (refine wp_append_lies _ _ _ 70 (by rfl) 0 59 i0 (.agg z128) 128 128 Try.underlying70 HI0.out.1 HI0.out.2.1 HI0.out.2.2.1 HI0.out.2.2.2 rfl (by decide) (.slice a (C i).length c) (C i).length (flatT (C i)) (by rfl) (by rw [← HVi.out]; exact (HD2.out.below (al hb4 _)).cache.rows i) ⟨w4.heap.size, 0, none⟩ 1 1 X (by rfl) (by rw [HXl.out]) (World.news_of_block (heap_alloc_new w4 _)) HX1.out (by decide) (by simp only [maxLen]; omega) (by omega) (Nat.zero_le _) _ rfl ?_; intro g5 cap5 w5 hown5 hg5 hat5 hlt5) | (obtain ⟨w6, hr6, hm6, hg6⟩ := World.ownsMap.update (World.ownsMap.kept (row := (Value.slice a (C i).length c).ownBlock) (World.ownsMap.alloc (World.ownsMap.kept (row := none) HDm.out.1 (gr_below (World.grownBy.refl w2 none) hb4) (by simp)) (.cells X.toArray 59)) hg5 (by have := (HD2.out.apartV i).2.2; rw [HVi.out] at this; exact fun e => this e.symm)) keyI Try.underlying55 (by simp only [maxLen]; omega) (kI_of (i := i) (by have := HD2.out.most; have := HI.out; omega)) (show selfR (.slice (some ⟨g5, 0, none⟩) ((C i).length + 1) cap5) = some (.held _, []) from rfl); refine wp_mapUp 55 _ _ _ (by rfl) w6 (by exact hr6) ?_)
    refine hK.out _ _ (by first | exact hpm | exact (hb4.cell (p := ⟨p, 1, none⟩) hpl).trans hpm | exact ((al hb4 _).cell (p := ⟨p, 1, none⟩) hpl).trans hpm | exact hg5.cell (((al hb4 _).cell (p := ⟨p, 1, none⟩) hpl).trans hpm) (by simpa using hvne2.symm) | exact hg6.cell (hg5.cell (((al hb4 _).cell (p := ⟨p, 1, none⟩) hpl).trans hpm) (by simpa using hvne2.symm)) (by simpa using hmne.symm)) ?_
    clear hK K
    intro hHeld2
    clear hHeld
    have hHeld := hHeld2
    clear hHeld2
    try simp only [Act.put, List.setIfInBounds_toArray, List.set_cons_zero, List.set_cons_succ]
    refine run_at (i := 14) rfl (by kernel_rfl) (by rfl) (fun K hK => ?_)
    simp only [List.getElem_toArray, List.getElem_cons_zero, List.getElem_cons_succ]
    first | (go_at_call 34; refine Calls.mono (HTX.out _ (Below.refl _ _).drew) ?_; rintro e w4 ⟨rfl, hb4'⟩; have hb4 : Below w2.heap.size w2 w4 := below_next (Below.refl _ _).drew hb4') | (refine wp_bs _ (by rfl) X (by rfl) HXl.out ?_) | (refine wp_append_lies _ _ _ 70 (by rfl) 0 59 i0 (.agg z128) 128 128 Try.underlying70 HI0.out.1 HI0.out.2.1 HI0.out.2.2.1 HI0.out.2.2.2 rfl (by decide) (.slice a (C i).length c) (C i).length (flatT (C i)) (by rfl) (by rw [← HVi.out]; exact (HD2.out.below (al hb4 _)).cache.rows i) ⟨w4.heap.size, 0, none⟩ 1 1 X (by rfl) (by rw [HXl.out]) (World.news_of_block (heap_alloc_new w4 _)) HX1.out (by decide) (by simp only [maxLen]; omega) (by omega) (Nat.zero_le _) _ rfl ?_; intro g5 cap5 w5 hown5 hg5 hat5 hlt5) | (obtain ⟨w6, hr6, hm6, hg6⟩ := World.ownsMap.update (World.ownsMap.kept (row := (Value.slice a (C i).length c).ownBlock) (World.ownsMap.alloc (World.ownsMap.kept (row := none) HDm.out.1 (gr_below (World.grownBy.refl w2 none) hb4) (by simp)) (.cells X.toArray 59)) hg5 (by have := (HD2.out.apartV i).2.2; rw [HVi.out] at this; exact fun e => this e.symm)) keyI Try.underlying55 (by simp only [maxLen]; omega) (kI_of (i := i) (by have := HD2.out.most; have := HI.out; omega)) (show selfR (.slice (some ⟨g5, 0, none⟩) ((C i).length + 1) cap5) = some (.held _, []) from rfl); refine wp_mapUp 55 _ _ _ (by rfl) w6 (by exact hr6) ?_)
    refine hK.out _ _ (by first | exact hpm | exact (hb4.cell (p := ⟨p, 1, none⟩) hpl).trans hpm | exact ((al hb4 _).cell (p := ⟨p, 1, none⟩) hpl).trans hpm | exact hg5.cell (((al hb4 _).cell (p := ⟨p, 1, none⟩) hpl).trans hpm) (by simpa using hvne2.symm) | exact hg6.cell (hg5.cell (((al hb4 _).cell (p := ⟨p, 1, none⟩) hpl).trans hpm) (by simpa using hvne2.symm)) (by simpa using hmne.symm)) ?_
    clear hK K
    intro hHeld2
    clear hHeld
    have hHeld := hHeld2
    clear hHeld2
    try simp only [Act.put, List.setIfInBounds_toArray, List.set_cons_zero, List.set_cons_succ]
    refine run_at (i := 15) rfl (by kernel_rfl) (by rfl) (fun K hK => ?_)
    simp only [List.getElem_toArray, List.getElem_cons_zero, List.getElem_cons_succ]
    first | (go_at_call 34; refine Calls.mono (HTX.out _ (Below.refl _ _).drew) ?_; rintro e w4 ⟨rfl, hb4'⟩; have hb4 : Below w2.heap.size w2 w4 := below_next (Below.refl _ _).drew hb4') | (refine wp_bs _ (by rfl) X (by rfl) HXl.out ?_) | (refine wp_append_lies _ _ _ 70 (by rfl) 0 59 i0 (.agg z128) 128 128 Try.underlying70 HI0.out.1 HI0.out.2.1 HI0.out.2.2.1 HI0.out.2.2.2 rfl (by decide) (.slice a (C i).length c) (C i).length (flatT (C i)) (by rfl) (by rw [← HVi.out]; exact (HD2.out.below (al hb4 _)).cache.rows i) ⟨w4.heap.size, 0, none⟩ 1 1 X (by rfl) (by rw [HXl.out]) (World.news_of_block (heap_alloc_new w4 _)) HX1.out (by decide) (by simp only [maxLen]; omega) (by omega) (Nat.zero_le _) _ rfl ?_; intro g5 cap5 w5 hown5 hg5 hat5 hlt5) | (obtain ⟨w6, hr6, hm6, hg6⟩ := World.ownsMap.update (World.ownsMap.kept (row := (Value.slice a (C i).length c).ownBlock) (World.ownsMap.alloc (World.ownsMap.kept (row := none) HDm.out.1 (gr_below (World.grownBy.refl w2 none) hb4) (by simp)) (.cells X.toArray 59)) hg5 (by have := (HD2.out.apartV i).2.2; rw [HVi.out] at this; exact fun e => this e.symm)) keyI Try.underlying55 (by simp only [maxLen]; omega) (kI_of (i := i) (by have := HD2.out.most; have := HI.out; omega)) (show selfR (.slice (some ⟨g5, 0, none⟩) ((C i).length + 1) cap5) = some (.held _, []) from rfl); refine wp_mapUp 55 _ _ _ (by rfl) w6 (by exact hr6) ?_)
    refine hK.out _ _ (by first | exact hpm | exact (hb4.cell (p := ⟨p, 1, none⟩) hpl).trans hpm | exact ((al hb4 _).cell (p := ⟨p, 1, none⟩) hpl).trans hpm | exact hg5.cell (((al hb4 _).cell (p := ⟨p, 1, none⟩) hpl).trans hpm) (by simpa using hvne2.symm) | exact hg6.cell (hg5.cell (((al hb4 _).cell (p := ⟨p, 1, none⟩) hpl).trans hpm) (by simpa using hvne2.symm)) (by simpa using hmne.symm)) ?_
    clear hK K
    intro hHeld2
    clear hHeld
    have hHeld := hHeld2
    clear hHeld2
    try simp only [Act.put, List.setIfInBounds_toArray, List.set_cons_zero, List.set_cons_succ]
    refine wpAnyH_done (by kernel_rfl) ?_ _
    refine NoPanic.normal ?_
  rotate_left 1
  refine AllReadyH.cons (o := _) rfl (fun K hK => ?_) AllReadyH.nil
  focus
    rw [if_pos (by rfl)]
    simp only [List.getElem_toArray, List.getElem_cons_zero, List.getElem_cons_succ]
    go_simp
    first | (go_at_call 34; refine Calls.mono (HTX.out _ (Below.refl _ _).drew) ?_; rintro e w4 ⟨rfl, hb4'⟩; have hb4 : Below w2.heap.size w2 w4 := below_next (Below.refl _ _).drew hb4') | (refine wp_bs _ (by rfl) X (by rfl) HXl.out ?_) | (refine wp_append_lies _ _ _ 70 (by rfl) 0 59 i0 (.agg z128) 128 128 Try.underlying70 HI0.out.1 HI0.out.2.1 HI0.out.2.2.1 HI0.out.2.2.2 rfl (by decide) (.slice a (C i).length c) (C i).length (flatT (C i)) (by rfl) (by rw [← HVi.out]; exact (HD2.out.below (al hb4 _)).cache.rows i) ⟨w4.heap.size, 0, none⟩ 1 1 X (by rfl) (by rw [HXl.out]) (World.news_of_block (heap_alloc_new w4 _)) HX1.out (by decide) (by simp only [maxLen]; omega) (by omega) (Nat.zero_le _) _ rfl ?_; intro g5 cap5 w5 hown5 hg5 hat5 hlt5) | (obtain ⟨w6, hr6, hm6, hg6⟩ := World.ownsMap.update (World.ownsMap.kept (row := (Value.slice a (C i).length c).ownBlock) (World.ownsMap.alloc (World.ownsMap.kept (row := none) HDm.out.1 (gr_below (World.grownBy.refl w2 none) hb4) (by simp)) (.cells X.toArray 59)) hg5 (by have := (HD2.out.apartV i).2.2; rw [HVi.out] at this; exact fun e => this e.symm)) keyI Try.underlying55 (by simp only [maxLen]; omega) (kI_of (i := i) (by have := HD2.out.most; have := HI.out; omega)) (show selfR (.slice (some ⟨g5, 0, none⟩) ((C i).length + 1) cap5) = some (.held _, []) from rfl); refine wp_mapUp 55 _ _ _ (by rfl) w6 (by exact hr6) ?_)
    go_wp2_with fail
    refine hK.out _ _ (by first | exact hpm | exact (hb4.cell (p := ⟨p, 1, none⟩) hpl).trans hpm | exact ((al hb4 _).cell (p := ⟨p, 1, none⟩) hpl).trans hpm | exact hg5.cell (((al hb4 _).cell (p := ⟨p, 1, none⟩) hpl).trans hpm) (by simpa using hvne2.symm) | exact hg6.cell (hg5.cell (((al hb4 _).cell (p := ⟨p, 1, none⟩) hpl).trans hpm) (by simpa using hvne2.symm)) (by simpa using hmne.symm)) ?_
    clear hK K
    intro hHeld2
    clear hHeld
    have hHeld := hHeld2
    clear hHeld2
    try simp only [Act.put, List.setIfInBounds_toArray, List.set_cons_zero, List.set_cons_succ]
    refine wpAnyH_ready (rs := [10, 13]) (by kernel_rfl) (by simp) ?_
    refine AllReadyH.cons (o := _) rfl (fun K hK => ?_) ?_
    focus
      rw [if_pos (by rfl)]
      refine val_wp 32 (v := .slice a (C i).length c) rfl ?_ ?_
      · (refine exec_lookup (by rfl) ?_; exact HLK2.out _ hb4)
      refine hK.out _ _ (by first | exact hpm | exact (hb4.cell (p := ⟨p, 1, none⟩) hpl).trans hpm | exact ((al hb4 _).cell (p := ⟨p, 1, none⟩) hpl).trans hpm | exact hg5.cell (((al hb4 _).cell (p := ⟨p, 1, none⟩) hpl).trans hpm) (by simpa using hvne2.symm) | exact hg6.cell (hg5.cell (((al hb4 _).cell (p := ⟨p, 1, none⟩) hpl).trans hpm) (by simpa using hvne2.symm)) (by simpa using hmne.symm)) ?_
      clear hK K
      intro hHeld2
      clear hHeld
      have hHeld := hHeld2
      clear hHeld2
      simp only [Act.put, List.setIfInBounds_toArray, List.set_cons_zero, List.set_cons_succ]
      refine run_at (i := 13) rfl (by kernel_rfl) (by rfl) (fun K hK => ?_)
      simp only [List.getElem_toArray, List.getElem_cons_zero, List.getElem_cons_succ]
      first | (go_at_call 34; refine Calls.mono (HTX.out _ (Below.refl _ _).drew) ?_; rintro e w4 ⟨rfl, hb4'⟩; have hb4 : Below w2.heap.size w2 w4 := below_next (Below.refl _ _).drew hb4') | (refine wp_bs _ (by rfl) X (by rfl) HXl.out ?_) | (refine wp_append_lies _ _ _ 70 (by rfl) 0 59 i0 (.agg z128) 128 128 Try.underlying70 HI0.out.1 HI0.out.2.1 HI0.out.2.2.1 HI0.out.2.2.2 rfl (by decide) (.slice a (C i).length c) (C i).length (flatT (C i)) (by rfl) (by rw [← HVi.out]; exact (HD2.out.below (al hb4 _)).cache.rows i) ⟨w4.heap.size, 0, none⟩ 1 1 X (by rfl) (by rw [HXl.out]) (World.news_of_block (heap_alloc_new w4 _)) HX1.out (by decide) (by simp only [maxLen]; omega) (by omega) (Nat.zero_le _) _ rfl ?_; intro g5 cap5 w5 hown5 hg5 hat5 hlt5) | (obtain ⟨w6, hr6, hm6, hg6⟩ := World.ownsMap.update (World.ownsMap.kept (row := (Value.slice a (C i).length c).ownBlock) (World.ownsMap.alloc (World.ownsMap.kept (row := none) HDm.out.1 (gr_below (World.grownBy.refl w2 none) hb4) (by simp)) (.cells X.toArray 59)) hg5 (by have := (HD2.out.apartV i).2.2; rw [HVi.out] at this; exact fun e => this e.symm)) keyI Try.underlying55 (by simp only [maxLen]; omega) (kI_of (i := i) (by have := HD2.out.most; have := HI.out; omega)) (show selfR (.slice (some ⟨g5, 0, none⟩) ((C i).length + 1) cap5) = some (.held _, []) from rfl); refine wp_mapUp 55 _ _ _ (by rfl) w6 (by exact hr6) ?_)
      refine hK.out _ _ (by first | exact hpm | exact (hb4.cell (p := ⟨p, 1, none⟩) hpl).trans hpm | exact ((al hb4 _).cell (p := ⟨p, 1, none⟩) hpl).trans hpm | exact hg5.cell (((al hb4 _).cell (p := ⟨p, 1, none⟩) hpl).trans hpm) (by simpa using hvne2.symm) | exact hg6.cell (hg5.cell (((al hb4 _).cell (p := ⟨p, 1, none⟩) hpl).trans hpm) (by simpa using hvne2.symm)) (by simpa using hmne.symm)) ?_
      clear hK K
      intro hHeld2
      clear hHeld
      have hHeld := hHeld2
      clear hHeld2
      try simp only [Act.put, List.setIfInBounds_toArray, List.set_cons_zero, List.set_cons_succ]
      refine run_at (i := 14) rfl (by kernel_rfl) (by rfl) (fun K hK => ?_)
      simp only [List.getElem_toArray, List.getElem_cons_zero, List.getElem_cons_succ]
      first | (go_at_call 34; refine Calls.mono (HTX.out _ (Below.refl _ _).drew) ?_; rintro e w4 ⟨rfl, hb4'⟩; have hb4 : Below w2.heap.size w2 w4 := below_next (Below.refl _ _).drew hb4') | (refine wp_bs _ (by rfl) X (by rfl) HXl.out ?_) | (refine wp_append_lies _ _ _ 70 (by rfl) 0 59 i0 (.agg z128) 128 128 Try.underlying70 HI0.out.1 HI0.out.2.1 HI0.out.2.2.1 HI0.out.2.2.2 rfl (by decide) (.slice a (C i).length c) (C i).length (flatT (C i)) (by rfl) (by rw [← HVi.out]; exact (HD2.out.below (al hb4 _)).cache.rows i) ⟨w4.heap.size, 0, none⟩ 1 1 X (by rfl) (by rw [HXl.out]) (World.news_of_block (heap_alloc_new w4 _)) HX1.out (by decide) (by simp only [maxLen]; omega) (by omega) (Nat.zero_le _) _ rfl ?_; intro g5 cap5 w5 hown5 hg5 hat5 hlt5) | (obtain ⟨w6, hr6, hm6, hg6⟩ := World.ownsMap.update (World.ownsMap.kept (row := (Value.slice a (C i).length c).ownBlock) (World.ownsMap.alloc (World.ownsMap.kept (row := none) HDm.out.1 (gr_below (World.grownBy.refl w2 none) hb4) (by simp)) (.cells X.toArray 59)) hg5 (by have := (HD2.out.apartV i).2.2; rw [HVi.out] at this; exact fun e => this e.symm)) keyI Try.underlying55 (by simp only [maxLen]; omega) (kI_of (i := i) (by have := HD2.out.most; have := HI.out; omega)) (show selfR (.slice (some ⟨g5, 0, none⟩) ((C i).length + 1) cap5) = some (.held _, []) from rfl); refine wp_mapUp 55 _ _ _ (by rfl) w6 (by exact hr6) ?_)
      refine hK.out _ _ (by first | exact hpm | exact (hb4.cell (p := ⟨p, 1, none⟩) hpl).trans hpm | exact ((al hb4 _).cell (p := ⟨p, 1, none⟩) hpl).trans hpm | exact hg5.cell (((al hb4 _).cell (p := ⟨p, 1, none⟩) hpl).trans hpm) (by simpa using hvne2.symm) | exact hg6.cell (hg5.cell (((al hb4 _).cell (p := ⟨p, 1, none⟩) hpl).trans hpm) (by simpa using hvne2.symm)) (by simpa using hmne.symm)) ?_
      clear hK K
      intro hHeld2
      clear hHeld
      have hHeld := hHeld2
      clear hHeld2
      try simp only [Act.put, List.setIfInBounds_toArray, List.set_cons_zero, List.set_cons_succ]
      refine run_at (i := 15) rfl (by kernel_rfl) (by rfl) (fun K hK => ?_)
      simp only [List.getElem_toArray, List.getElem_cons_zero, List.getElem_cons_succ]
      first | (go_at_call 34; refine Calls.mono (HTX.out _ (Below.refl _ _).drew) ?_; rintro e w4 ⟨rfl, hb4'⟩; have hb4 : Below w2.heap.size w2 w4 := below_next (Below.refl _ _).drew hb4') | (refine wp_bs _ (by rfl) X (by rfl) HXl.out ?_) | (refine wp_append_lies _ _ _ 70 (by rfl) 0 59 i0 (.agg z128) 128 128 Try.underlying70 HI0.out.1 HI0.out.2.1 HI0.out.2.2.1 HI0.out.2.2.2 rfl (by decide) (.slice a (C i).length c) (C i).length (flatT (C i)) (by rfl) (by rw [← HVi.out]; exact (HD2.out.below (al hb4 _)).cache.rows i) ⟨w4.heap.size, 0, none⟩ 1 1 X (by rfl) (by rw [HXl.out]) (World.news_of_block (heap_alloc_new w4 _)) HX1.out (by decide) (by simp only [maxLen]; omega) (by omega) (Nat.zero_le _) _ rfl ?_; intro g5 cap5 w5 hown5 hg5 hat5 hlt5) | (obtain ⟨w6, hr6, hm6, hg6⟩ := World.ownsMap.update (World.ownsMap.kept (row := (Value.slice a (C i).length c).ownBlock) (World.ownsMap.alloc (World.ownsMap.kept (row := none) HDm.out.1 (gr_below (World.grownBy.refl w2 none) hb4) (by simp)) (.cells X.toArray 59)) hg5 (by have := (HD2.out.apartV i).2.2; rw [HVi.out] at this; exact fun e => this e.symm)) keyI Try.underlying55 (by simp only [maxLen]; omega) (kI_of (i := i) (by have := HD2.out.most; have := HI.out; omega)) (show selfR (.slice (some ⟨g5, 0, none⟩) ((C i).length + 1) cap5) = some (.held _, []) from rfl); refine wp_mapUp 55 _ _ _ (by rfl) w6 (by exact hr6) ?_)
      refine hK.out _ _ (by first | exact hpm | exact (hb4.cell (p := ⟨p, 1, none⟩) hpl).trans hpm | exact ((al hb4 _).cell (p := ⟨p, 1, none⟩) hpl).trans hpm | exact hg5.cell (((al hb4 _).cell (p := ⟨p, 1, none⟩) hpl).trans hpm) (by simpa using hvne2.symm) | exact hg6.cell (hg5.cell (((al hb4 _).cell (p := ⟨p, 1, none⟩) hpl).trans hpm) (by simpa using hvne2.symm)) (by simpa using hmne.symm)) ?_
      clear hK K
      intro hHeld2
      clear hHeld
      have hHeld := hHeld2
      clear hHeld2
      try simp only [Act.put, List.setIfInBounds_toArray, List.set_cons_zero, List.set_cons_succ]
      refine wpAnyH_done (by kernel_rfl) ?_ _
      refine NoPanic.normal ?_
    rotate_left 1
    refine AllReadyH.cons (o := _) rfl (fun K hK => ?_) AllReadyH.nil
    focus
      rw [if_pos (by rfl)]
      simp only [List.getElem_toArray, List.getElem_cons_zero, List.getElem_cons_succ]
      first | (go_at_call 34; refine Calls.mono (HTX.out _ (Below.refl _ _).drew) ?_; rintro e w4 ⟨rfl, hb4'⟩; have hb4 : Below w2.heap.size w2 w4 := below_next (Below.refl _ _).drew hb4') | (refine wp_bs _ (by rfl) X (by rfl) HXl.out ?_) | (refine wp_append_lies _ _ _ 70 (by rfl) 0 59 i0 (.agg z128) 128 128 Try.underlying70 HI0.out.1 HI0.out.2.1 HI0.out.2.2.1 HI0.out.2.2.2 rfl (by decide) (.slice a (C i).length c) (C i).length (flatT (C i)) (by rfl) (by rw [← HVi.out]; exact (HD2.out.below (al hb4 _)).cache.rows i) ⟨w4.heap.size, 0, none⟩ 1 1 X (by rfl) (by rw [HXl.out]) (World.news_of_block (heap_alloc_new w4 _)) HX1.out (by decide) (by simp only [maxLen]; omega) (by omega) (Nat.zero_le _) _ rfl ?_; intro g5 cap5 w5 hown5 hg5 hat5 hlt5) | (obtain ⟨w6, hr6, hm6, hg6⟩ := World.ownsMap.update (World.ownsMap.kept (row := (Value.slice a (C i).length c).ownBlock) (World.ownsMap.alloc (World.ownsMap.kept (row := none) HDm.out.1 (gr_below (World.grownBy.refl w2 none) hb4) (by simp)) (.cells X.toArray 59)) hg5 (by have := (HD2.out.apartV i).2.2; rw [HVi.out] at this; exact fun e => this e.symm)) keyI Try.underlying55 (by simp only [maxLen]; omega) (kI_of (i := i) (by have := HD2.out.most; have := HI.out; omega)) (show selfR (.slice (some ⟨g5, 0, none⟩) ((C i).length + 1) cap5) = some (.held _, []) from rfl); refine wp_mapUp 55 _ _ _ (by rfl) w6 (by exact hr6) ?_)
      refine hK.out _ _ (by first | exact hpm | exact (hb4.cell (p := ⟨p, 1, none⟩) hpl).trans hpm | exact ((al hb4 _).cell (p := ⟨p, 1, none⟩) hpl).trans hpm | exact hg5.cell (((al hb4 _).cell (p := ⟨p, 1, none⟩) hpl).trans hpm) (by simpa using hvne2.symm) | exact hg6.cell (hg5.cell (((al hb4 _).cell (p := ⟨p, 1, none⟩) hpl).trans hpm) (by simpa using hvne2.symm)) (by simpa using hmne.symm)) ?_
      clear hK K
      intro hHeld2
      clear hHeld
      have hHeld := hHeld2
      clear hHeld2
      try simp only [Act.put, List.setIfInBounds_toArray, List.set_cons_zero, List.set_cons_succ]
      refine val_at (i := 10) 32 (v := .slice a (C i).length c) rfl rfl (by kernel_rfl) (by rfl) ?_ ?_ ?_
      · (refine exec_lookup (by rfl) ?_; exact HLK2.out _ (al hb4 _))
      · (first | exact hpm | exact (hb4.cell (p := ⟨p, 1, none⟩) hpl).trans hpm | exact ((al hb4 _).cell (p := ⟨p, 1, none⟩) hpl).trans hpm | exact hg5.cell (((al hb4 _).cell (p := ⟨p, 1, none⟩) hpl).trans hpm) (by simpa using hvne2.symm) | exact hg6.cell (hg5.cell (((al hb4 _).cell (p := ⟨p, 1, none⟩) hpl).trans hpm) (by simpa using hvne2.symm)) (by simpa using hmne.symm))
      intro hHeld2
      clear hHeld
      have hHeld := hHeld2
      clear hHeld2
      simp only [Act.put, List.setIfInBounds_toArray, List.set_cons_zero, List.set_cons_succ]
      refine run_at (i := 14) rfl (by kernel_rfl) (by rfl) (fun K hK => ?_)
      simp only [List.getElem_toArray, List.getElem_cons_zero, List.getElem_cons_succ]
      first | (go_at_call 34; refine Calls.mono (HTX.out _ (Below.refl _ _).drew) ?_; rintro e w4 ⟨rfl, hb4'⟩; have hb4 : Below w2.heap.size w2 w4 := below_next (Below.refl _ _).drew hb4') | (refine wp_bs _ (by rfl) X (by rfl) HXl.out ?_) | (refine wp_append_lies _ _ _ 70 (by rfl) 0 59 i0 (.agg z128) 128 128 Try.underlying70 HI0.out.1 HI0.out.2.1 HI0.out.2.2.1 HI0.out.2.2.2 rfl (by decide) (.slice a (C i).length c) (C i).length (flatT (C i)) (by rfl) (by rw [← HVi.out]; exact (HD2.out.below (al hb4 _)).cache.rows i) ⟨w4.heap.size, 0, none⟩ 1 1 X (by rfl) (by rw [HXl.out]) (World.news_of_block (heap_alloc_new w4 _)) HX1.out (by decide) (by simp only [maxLen]; omega) (by omega) (Nat.zero_le _) _ rfl ?_; intro g5 cap5 w5 hown5 hg5 hat5 hlt5) | (obtain ⟨w6, hr6, hm6, hg6⟩ := World.ownsMap.update (World.ownsMap.kept (row := (Value.slice a (C i).length c).ownBlock) (World.ownsMap.alloc (World.ownsMap.kept (row := none) HDm.out.1 (gr_below (World.grownBy.refl w2 none) hb4) (by simp)) (.cells X.toArray 59)) hg5 (by have := (HD2.out.apartV i).2.2; rw [HVi.out] at this; exact fun e => this e.symm)) keyI Try.underlying55 (by simp only [maxLen]; omega) (kI_of (i := i) (by have := HD2.out.most; have := HI.out; omega)) (show selfR (.slice (some ⟨g5, 0, none⟩) ((C i).length + 1) cap5) = some (.held _, []) from rfl); refine wp_mapUp 55 _ _ _ (by rfl) w6 (by exact hr6) ?_)
      refine hK.out _ _ (by first | exact hpm | exact (hb4.cell (p := ⟨p, 1, none⟩) hpl).trans hpm | exact ((al hb4 _).cell (p := ⟨p, 1, none⟩) hpl).trans hpm | exact hg5.cell (((al hb4 _).cell (p := ⟨p, 1, none⟩) hpl).trans hpm) (by simpa using hvne2.symm) | exact hg6.cell (hg5.cell (((al hb4 _).cell (p := ⟨p, 1, none⟩) hpl).trans hpm) (by simpa using hvne2.symm)) (by simpa using hmne.symm)) ?_
      clear hK K
      intro hHeld2
      clear hHeld
      have hHeld := hHeld2
      clear hHeld2
      try simp only [Act.put, List.setIfInBounds_toArray, List.set_cons_zero, List.set_cons_succ]
      refine run_at (i := 15) rfl (by kernel_rfl) (by rfl) (fun K hK => ?_)
      simp only [List.getElem_toArray, List.getElem_cons_zero, List.getElem_cons_succ]
      first | (go_at_call 34; refine Calls.mono (HTX.out _ (Below.refl _ _).drew) ?_; rintro e w4 ⟨rfl, hb4'⟩; have hb4 : Below w2.heap.size w2 w4 := below_next (Below.refl _ _).drew hb4') | (refine wp_bs _ (by rfl) X (by rfl) HXl.out ?_) | (refine wp_append_lies _ _ _ 70 (by rfl) 0 59 i0 (.agg z128) 128 128 Try.underlying70 HI0.out.1 HI0.out.2.1 HI0.out.2.2.1 HI0.out.2.2.2 rfl (by decide) (.slice a (C i).length c) (C i).length (flatT (C i)) (by rfl) (by rw [← HVi.out]; exact (HD2.out.below (al hb4 _)).cache.rows i) ⟨w4.heap.size, 0, none⟩ 1 1 X (by rfl) (by rw [HXl.out]) (World.news_of_block (heap_alloc_new w4 _)) HX1.out (by decide) (by simp only [maxLen]; omega) (by omega) (Nat.zero_le _) _ rfl ?_; intro g5 cap5 w5 hown5 hg5 hat5 hlt5) | (obtain ⟨w6, hr6, hm6, hg6⟩ := World.ownsMap.update (World.ownsMap.kept (row := (Value.slice a (C i).length c).ownBlock) (World.ownsMap.alloc (World.ownsMap.kept (row := none) HDm.out.1 (gr_below (World.grownBy.refl w2 none) hb4) (by simp)) (.cells X.toArray 59)) hg5 (by have := (HD2.out.apartV i).2.2; rw [HVi.out] at this; exact fun e => this e.symm)) keyI Try.underlying55 (by simp only [maxLen]; omega) (kI_of (i := i) (by have := HD2.out.most; have := HI.out; omega)) (show selfR (.slice (some ⟨g5, 0, none⟩) ((C i).length + 1) cap5) = some (.held _, []) from rfl); refine wp_mapUp 55 _ _ _ (by rfl) w6 (by exact hr6) ?_)
      refine hK.out _ _ (by first | exact hpm | exact (hb4.cell (p := ⟨p, 1, none⟩) hpl).trans hpm | exact ((al hb4 _).cell (p := ⟨p, 1, none⟩) hpl).trans hpm | exact hg5.cell (((al hb4 _).cell (p := ⟨p, 1, none⟩) hpl).trans hpm) (by simpa using hvne2.symm) | exact hg6.cell (hg5.cell (((al hb4 _).cell (p := ⟨p, 1, none⟩) hpl).trans hpm) (by simpa using hvne2.symm)) (by simpa using hmne.symm)) ?_
      clear hK K
      intro hHeld2
      clear hHeld
      have hHeld := hHeld2
      clear hHeld2
      try simp only [Act.put, List.setIfInBounds_toArray, List.set_cons_zero, List.set_cons_succ]
      refine wpAnyH_done (by kernel_rfl) ?_ _
      refine NoPanic.normal ?_
  all_goals
    go_wp2
    go_ret
    exact ⟨rfl, write_post HD2.out HDm.out HVi.out HI.out hn (HXe.out ▸ hown5) hl hb4 hg5 hat5 hlt5 hm6 hg6 hg2⟩
end Go.Proofs.Ytgdkiejlggiakaa
