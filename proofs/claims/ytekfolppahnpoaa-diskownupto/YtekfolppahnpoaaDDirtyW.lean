import Derived.Test.YtekfolppahnpoaaDDirty
namespace Go.Proofs.Ytekfolppahnpoaa
set_option linter.unusedVariables false
set_option linter.unusedSimpArgs false
open Go.RowKit Go.Maps Go.Sort
/-- the keys that have come -/
structure Came (N : Nat) (C : Nat → List (List UInt8)) (left : Lit → Bool) (ks : List Nat) : Prop where
  nod : ks.Nodup
  mem : ∀ k, k ∈ ks ↔ k < N ∧ C k ≠ [] ∧ left (kI k) = false
theorem Came.step {N : Nat} {C : Nat → List (List UInt8)} {left : Lit → Bool} {ks : List Nat} (h : Came N C left ks) (hN : N ≤ 65536) {i : Nat} (hi : i < N) (hc : C i ≠ []) (hl : left (kI i) = true) : Came N C (fun z => left z && !z.sameKey (kI i)) (ks ++ [i]) := by
  have hself := WideAt.sameKey_self (kI_key (show i ≤ 65536 by omega))
  have hoth : ∀ k, k ≠ i → (kI k).sameKey (kI i) = false := fun k hk => by
    cases h : (kI k).sameKey (kI i)
    · rfl
    · exact absurd (WideAt.sameKey_eq h) (kI_ne hk)
  refine ⟨?_, fun k => ?_⟩
  · rw [List.nodup_append]
    refine ⟨h.nod, by simp, fun a ha b hb => ?_⟩
    rw [List.mem_singleton.1 hb]
    intro e
    subst e
    have := ((h.mem a).1 ha).2.2
    rw [hl] at this
    cases this
  · rw [List.mem_append, h.mem k, List.mem_singleton]
    by_cases e : k = i
    · subst e
      simp [hi, hc, hself]
    · simp [e, hoth k e]
theorem Came.done {N : Nat} {C : Nat → List (List UInt8)} {left : Lit → Bool} {ks : List Nat} (h : Came N C left ks) (hl : ∀ kl, left kl = false) : ∀ k, k ∈ ks ↔ k < N ∧ C k ≠ [] := fun k => by rw [h.mem k]; simp [hl]
theorem take_map_snoc (l : List Nat) (f : Nat → Int) (k : Nat) (h : k < l.length) : (l.map f).take (k + 1) = (l.map f).take k ++ [f l[k]] := by
  rw [List.take_succ_eq_append_getElem (by simpa using h)]
  simp
set_option maxRecDepth 20000 in
set_option maxHeartbeats 800000 in
theorem dirty_t (p g m : Nat) (S : List Sec) (C : Nat → List (List UInt8)) (V : Nat → Value) (off : Bool) (fuse : Int) (n : Nat) (w : World) (h : DK w p g m S C V off fuse n) :
    Calls Try.prog 10 #[.pointer (some ⟨p, 0, none⟩)] w fun e w' => ∃ v u, e = .returned (.tuple #[v, u]) ∧ OwnI w' w.heap.size v (dirtyL S.length C) ∧ OwnI w' w.heap.size u (dirtyC S.length C) ∧ (u.ownBlock = none ∨ v.ownBlock ≠ u.ownBlock) ∧ Below w.heap.size w w' := by
  have h0 : w.cell? ⟨p, 0, none⟩ = some (.slice (some ⟨g, 0, none⟩) S.length S.length) := by rw [cell_of_row _ _ 0 _ _ _ h.hp]; rfl
  have hpm : w.cell? ⟨p, 1, none⟩ = some (.map (some m)) := by rw [cell_of_row _ _ 1 _ _ _ h.hp]; rfl
  have hpos : 0 < S.length := h.one
  have hpl := World.block_lt_of_cell? w _ hpm
  have hml : m < w.heap.size := h.lt (.inr (.inr (.inl rfl)))
  have HD : Hid _ := h
  obtain ⟨D, hDo, hDa, hDk⟩ := h.cache.own
  have HDA : Hid _ := hDa
  have HDK : Hid _ := hDk
  have hmost := h.most
  have hfew := h.few
  have hszD : Maps.size D ≤ n := by
    obtain ⟨es, cl, -, -, h3, rfl⟩ := hDo
    show (List.foldr DataW.insert [] _).length ≤ n
    rw [length_sorted]
    simpa using h3
  clear h hDa hDk
  go_enter Try.func10, Try.ntmps10
  go_wp2_with (first
    | (go_at_call 21; refine (made_t p _ _ _ _ h0).mono ?_; rintro e w1 ⟨rfl, hq⟩; have hq := hq.symm; subst hq; rw [decide_eq_true hpos])
    | (at_range; refine wpList_range_own _ rfl _ 48 rfl 3 58 keyI Try.underlying48 selfR m n D rfl hDo ?_; intro w3 hrg3 hg3 hs3))
  go_frame
  obtain ⟨R, hR⟩ : ∃ R : Nat, R = w.heap.size := ⟨_, rfl⟩
  rw [← hR] at hrg3 ⊢
  have hc3 : Came S.length C (Maps.has D) [] := ⟨by simp, fun k => by
    simp only [List.not_mem_nil, false_iff]
    rintro ⟨-, h2, h3⟩
    rw [has_true_of_atKey (HDA.out k h2)] at h3
    cases h3⟩
  have hb3 : Below w.heap.size w w3 := (Below.refl _ w).grown hg3 (Nat.le_refl _) (fun k hk => by cases hk)
  have HR : Hid (R = w.heap.size) := hR
  clear hR
  go_loopw [2, 4] (fun v _ wr => ∃ (left : Lit → Bool) (cnt : Nat) (ks : List Nat), wr.ranges Try.prog 3 selfR m R n D left cnt ∧ Came S.length C left ks ∧ ks.length + cnt ≤ n ∧ OwnI wr (w.heap.size + 1) v (ks.map fun (k : Nat) => (k : Int)) ∧ Below w.heap.size w wr ∧ w.heap.size + 1 ≤ wr.heap.size) (fun _ _ wr => wr.rangeLeft m R)
  case atStart => exact ⟨_, _, [], hrg3, hc3, by simpa using hszD, OwnI.nil _ _, hb3, by omega⟩
  case round =>
    obtain ⟨left, cnt, ks, hrg, hcm, hle, hown, hbw, hsw⟩ := hrel
    clear hrg3 hc3 hb3
    have hkl : (ks.map fun (k : Nat) => (k : Int)).length = ks.length := by simp
    go_wp2_with (first
      | (at_next; refine wpList_next_ranges _ rfl _ rfl 3 keyI selfR (Value.int .i64) (fun v : Value => v) (fun key kl hkey => by obtain ⟨x, rfl, _⟩ := Maps.keyOf_int_inv Try.underlying3 hkey; exact ⟨x, rfl⟩) (fun v y _ => ⟨v, rfl⟩) m R n D left cnt rfl hrg ?_ ?_))
    · intro _ hl0
      obtain ⟨X, hX⟩ : ∃ X : List Int, X = ks.map fun (k : Nat) => (k : Int) := ⟨_, rfl⟩
      have hXs := dirty_sorted ks hcm.nod (hcm.done hl0)
      rw [← hX] at hown hkl hXs
      have HSO : Hid _ := sort_own (w.heap.size + 1) u2 X wr hown (by omega)
      rw [hXs] at HSO
      have hlt5 : ∀ b, u2.ownBlock = some b → w.heap.size + 1 ≤ b := fun b hb => (World.ownsRow.lt hown b hb).1
      have hXD : X.length = (dirtyN S.length C).length := by
        have h9 := congrArg List.length hXs
        rw [List.length_mergeSort] at h9
        rw [h9]
        simp [dirtyL]
      obtain ⟨av, cv, hvv, -⟩ := hown.val
      have HXD : Hid _ := hXD
      have hDl : (dirtyN S.length C).length ≤ n := by omega
      clear hX hXs hcm hown hrg hXD
      obtain ⟨L, hL⟩ : ∃ L : Nat, L = X.length := ⟨_, rfl⟩
      rw [← hL] at hvv
      subst hvv
      have HL : Hid (L = (dirtyN S.length C).length) := by unfold Hid; rw [hL]; exact HXD.out
      clear hL
      go_wp2_with fail
      refine Calls.mono HSO.out ?_
      rintro e w6 ⟨rfl, hown6, hg6⟩
      have hb6 : Below w.heap.size w w6 := hbw.grown hg6 hbw.size (fun j hj => by have := hlt5 j hj; omega)
      have hs6 := hg6.size
      have hD6 : DK w6 p g m S C V off fuse n := DK.kept HD.out (Chg.of_below (F := fun _ => False) hb6) (fun _ _ hf => hf)
      have hLn : L ≤ n := by have := HL.out; omega
      have hdl : (dirtyL S.length C).length = L := by rw [HL.out]; simp [dirtyL]
      have hb6s := hb6.size
      have HDl : Hid _ := hdl
      clear hkl hdl
      go_wp2_with fail
      go_loopw [27, 3] (fun i u wr => ∃ k : Nat, k ≤ L ∧ i = .int .i64 k ∧ OwnI wr w6.heap.size u ((dirtyC S.length C).take k) ∧ Below w6.heap.size w6 wr) (fun i _ _ => L - (intOf i).toNat)
      case atStart => exact ⟨0, Nat.zero_le _, rfl, by rw [List.take_zero]; exact OwnI.nil _ _, Below.refl _ _⟩
      case round =>
        obtain ⟨k, hk, rfl, hou, hbr⟩ := hrel
        by_cases hlt : k < L
        · have hkd : k < (dirtyN S.length C).length := by have := HL.out; omega
          obtain ⟨i, hi⟩ : ∃ i : Nat, i = (dirtyN S.length C)[k] := ⟨_, rfl⟩
          have hiN : i < S.length := by rw [hi]; exact (dirtyN_mem.1 (List.getElem_mem hkd)).1
          obtain ⟨av', cv', hvv', hcell⟩ := hown6.val
          simp only [Value.slice.injEq] at hvv'
          obtain ⟨rfl, -, rfl⟩ := hvv'
          obtain ⟨gv, rfl, -, -, hcl⟩ := hcell (by rw [HDl.out]; omega)
          have hck : wr.cell? ⟨gv, k, none⟩ = some (.int .i64 (i : Int)) := by
            have h9 := hcl k (by rw [HDl.out]; exact hlt)
            have h10 : (dirtyL S.length C)[k]'(by rw [HDl.out]; exact hlt) = (i : Int) := by rw [hi]; simp [dirtyL]
            rw [h10] at h9
            exact (hbr.cell (World.block_lt_of_cell? _ _ h9)).trans h9
          have hDr := hD6.below hbr
          obtain ⟨a4, c4, hV4, hL4⟩ := hDr.looks i hiN
          have hlk := hL4.run wr (Below.refl _ _)
          have hpm2 : wr.cell? ⟨p, 1, none⟩ = some (.map (some m)) := by rw [cell_of_row _ _ 1 _ _ _ hDr.hp]; rfl
          have hsn := take_map_snoc (dirtyN S.length C) (fun j => ((C j).length : Int)) k hkd
          rw [← hi] at hsn
          have HSN : Hid ((dirtyC S.length C).take (k + 1) = (dirtyC S.length C).take k ++ [((C i).length : Int)]) := hsn
          have hk0 : (0 : Int) ≤ (k : Int) := by omega
          have hk1 : (k : Int) < (L : Int) := by omega
          obtain ⟨Y, hY⟩ : ∃ Y : List Int, Y = (dirtyC S.length C).take k := ⟨_, rfl⟩
          rw [← hY] at hou HSN
          have hYl : Y.length ≤ 1099511627776 := by rw [hY, List.length_take]; omega
          have hou4 : ∀ o, OwnI (wr.alloc o) w6.heap.size u3 Y := fun o => hou.below (al (Below.refl _ _) o)
          have hsz4 : w6.heap.size ≤ (wr.alloc (.cells #[.int .i64 ((C i).length : Int)] 3)).heap.size := by have := hbr.size; simp; omega
          have hlt5 : ∀ b, u3.ownBlock = some b → w6.heap.size ≤ b := fun b hb => (World.ownsRow.lt hou b hb).1
          clear hi hV4 hL4 hcl hcell hsn hY hDr
          go_wp2_with (first
            | (at_builtin; refine wp_appI rfl _ _ rfl w6.heap.size u3 Y ((C i).length : Int) wr.heap.size rfl (hou4 _) rfl (heap_alloc_new wr _) hYl hsz4 ?_; intro g7 cap7 w7 hown7 hg7 hat7))
          go_roundw
          case rel =>
            have hg47 : wr.grownBy w7 u3.ownBlock := ((World.grownBy_alloc wr _ none).any _).trans' hg7
            refine ⟨k + 1, by omega, by go_num, by rw [HSN.out]; exact hown7, hbr.grown hg47 hbr.size (fun j hj => hlt5 j hj)⟩
          case measure => simp [intOf]; omega
        · have hkL : (dirtyC S.length C).take k = dirtyC S.length C := List.take_of_length_le (by have := HL.out; simp [dirtyC]; omega)
          rw [hkL] at hou
          have hne : u3.ownBlock = none ∨ (Value.slice av L cv).ownBlock ≠ u3.ownBlock := by
            cases hq : u3.ownBlock with
            | none => exact .inl rfl
            | some b =>
              refine .inr (fun e => ?_)
              have h1 := (World.ownsRow.lt hou b hq).1
              have h2 := (World.ownsRow.lt hown6 b e).2
              omega
          clear hkL
          go_wp2
          go_ret2
          exact ⟨_, _, rfl, (hown6.below hbr).base (by omega), hou.base hb6s, hne, hb6.trans (hbr.mono hb6s)⟩
    · intro x c kl yd yp w4 cnt4 hkey hlk hv hat hrg4 hltc hg4 hs4 hen
      obtain ⟨i, hiN, hkl2, hci⟩ := HDK.out kl (has_true_of_atKey hat)
      have hxi : x = (i : Int) := by
        obtain ⟨x', e1, e2, _⟩ := Maps.keyOf_int_inv Try.underlying3 hkey
        cases e1
        rw [e2] at hkl2
        exact (Lit.int.inj hkl2).2
      subst hxi
      subst hkl2
      obtain ⟨X, hX⟩ : ∃ X : List Int, X = ks.map fun (k : Nat) => (k : Int) := ⟨_, rfl⟩
      rw [← hX] at hown hkl
      have HX : Hid _ := hX
      have hvR : u2.ownBlock = none ∨ u2.ownBlock ≠ some R := .inr (fun e => row_ne_low hown (b := R) (by rw [HR.out]; exact Nat.lt_succ_self _) e.symm)
      have hvm : some m ≠ u2.ownBlock := row_ne_low hown (by omega)
      have hvR2 : some R ≠ u2.ownBlock := row_ne_low hown (by rw [HR.out]; exact Nat.lt_succ_self _)
      have hown4 := hown.grown hg4 hvR
      have hown4a : ∀ o, OwnI (w4.alloc o) (w.heap.size + 1) u2 X := fun o => hown4.below (al (Below.refl _ _) o)
      have hsz4 : w.heap.size + 1 ≤ (w4.alloc (.cells #[.int .i64 (i : Int)] 3)).heap.size := by have := hg4.size; simp; omega
      have hlt5 : ∀ b, u2.ownBlock = some b → w.heap.size + 1 ≤ b := fun b hb => (World.ownsRow.lt hown b hb).1
      have hXl : X.length ≤ 1099511627776 := by omega
      have HS4 : Hid _ := hs4
      have HKL : Hid _ := hkl
      clear hX hs4 hkl
      go_wp2_with (first
        | (at_builtin; (refine wp_appI rfl _ _ rfl (w.heap.size + 1) u2 X (i : Int) w4.heap.size rfl (hown4a _) rfl (heap_alloc_new w4 _) hXl hsz4 ?_; intro g5 cap5 w5 hown5 hg5 hat5)))
      go_roundw
      case rel =>
        have hs4' := hg4.size
        have hg45 : w4.grownBy w5 u2.ownBlock := ((World.grownBy_alloc w4 _ none).any _).trans' hg5
        refine ⟨_, cnt4, ks ++ [i], hrg4.kept hg45 hvm hvR2, hcm.step hmost hiN hci hlk, by have := HKL.out; rw [List.length_append]; simp; omega, ?_, ?_, ?_⟩
        · rw [List.map_append, ← HX.out]
          exact hown5
        · exact (hbw.grown hg4 hbw.size (fun j hj => by cases hj; rw [HR.out]; exact Nat.le_refl _)).grown hg45 (by have := hbw.size; omega) (fun j hj => by have := hlt5 j hj; omega)
        · have := hg45.size; omega
      case measure =>
        have hg45 : w4.grownBy w5 u2.ownBlock := ((World.grownBy_alloc w4 _ none).any _).trans' hg5
        rw [(hrg4.kept hg45 hvm hvR2).left_eq, hrg.left_eq]
        exact hltc
end Go.Proofs.Ytekfolppahnpoaa
