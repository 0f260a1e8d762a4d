import Derived.Test.YtibolgpaolnheacNT
import Derived.Test.YtibolgpaolnheacNXq
namespace Go.Proofs.Ytibolgpaolnheac
set_option linter.unusedVariables false
set_option linter.unusedSimpArgs false
open Go.RowKit Go.Shelf
/-- along's ranging: the boxes of the row (H + 1), of the most (H + 2) and of the count (C) -/
structure Alg (w z V : World) (H C m : Nat) (Z : BlkS) (pre : List Ent) (vl : Value) : Prop where
  bel : Below H w V
  l : V.heap[H + 1]? = some (.cells #[vl] tUs (0, 0))
  o : OwnU V z.heap.size vl (nmE pre)
  c : V.heap[C]? = some (.cells #[.int .i64 (pre.length : Int)] 3 (0, 0))
  mo : V.heap[H + 1 + 1]? = some (.cells #[.int .i64 (m : Int)] 3 (0, 0))
  zl : ¬ Z (H + 1)
  zc : ¬ Z C
  zr : ∀ b, vl.ownBlock = some b → ¬ Z b
  zb : ∀ k, Z k → k < V.heap.size
  sz : z.heap.size ≤ V.heap.size
variable {w z V V' : World} {H C m : Nat} {Z : BlkS} {pre : List Ent} {vl : Value}
theorem Alg.grow {row : Option Nat} (h : Alg w z V H C m Z pre vl) (hH : H ≤ z.heap.size) (hg : V.grownBy V' row) (hr : ∀ r, row = some r → z.heap.size ≤ r ∧ ∃ o : Obj, V.heap[r]? = some o ∧ o.isCells = false) : Alg w z V' H C m (fun j => Z j ∨ (V.heap.size ≤ j ∧ j < V'.heap.size)) pre vl := by
  have kp : ∀ {k : Nat} {cs : Array Value} {t : TypeId} {fr : Nat × Nat}, V.heap[k]? = some (.cells cs t fr) → V'.heap[k]? = some (.cells cs t fr) := fun hk => heap_kept hk hg (fun r e => (hr r e).2)
  have lt : ∀ {k : Nat} {o : Obj}, V.heap[k]? = some o → k < V.heap.size := fun hk => (Array.getElem?_eq_some_iff.1 hk).1
  refine ⟨h.bel.grown hg (Nat.le_trans hH h.sz) (fun r e => Nat.le_trans hH (hr r e).1), kp h.l, row_kept h.o (fun b hb => ?_), kp h.c, kp h.mo, ?_, ?_, ?_, ?_, Nat.le_trans h.sz hg.size⟩
  · obtain ⟨cur, h9⟩ := rowX_blk h.o b hb
    rw [kp h9, h9]
  · rintro (hz | ⟨hz, -⟩)
    · exact h.zl hz
    · have := lt h.l; omega
  · rintro (hz | ⟨hz, -⟩)
    · exact h.zc hz
    · have := lt h.c; omega
  · intro b hb
    rintro (hz | ⟨hz, -⟩)
    · exact h.zr b hb hz
    · obtain ⟨cur, h9⟩ := rowX_blk h.o b hb
      have := lt h9; omega
  · rintro k (hz | ⟨-, hz⟩)
    · exact Nat.lt_of_lt_of_le (h.zb k hz) hg.size
    · exact hz
theorem Alg.less {Z' : BlkS} (h : Alg w z V H C m Z pre vl) (hz : ∀ j, Z' j → Z j) : Alg w z V H C m Z' pre vl :=
  ⟨h.bel, h.l, h.o, h.c, h.mo, fun h9 => h.zl (hz _ h9), fun h9 => h.zc (hz _ h9), fun b hb h9 => h.zr b hb (hz _ h9), fun k hk => h.zb k (hz k hk), h.sz⟩
/-- a round -/
theorem Alg.step (h : Alg w z V H C m Z pre vl) (hH : H ≤ z.heap.size) (hHC : H + 3 ≤ C) (x : Ent) (V2 : World) (v2 : Value) (hg : V.grownBy V2 vl.ownBlock) (ho : OwnU V2 z.heap.size v2 (nmE pre ++ [x.st.1, x.st.2, x.n])) (hb : ∀ b, v2.ownBlock = some b → vl.ownBlock = some b ∨ V.heap.size ≤ b) (hCz : C < z.heap.size)
    (u : World) (hu : u = (V2.setCell ⟨H + 1, 0, none⟩ v2).setCell ⟨C, 0, none⟩ (.int .i64 ((pre.length : Int) + 1))) : KeepsFrom z.heap.size V u ∧ KeepZ Z V u ∧ Alg w z u H C m Z (pre ++ [x]) v2 := by
  have hro : ∀ b, vl.ownBlock = some b → z.heap.size ≤ b := fun b hb => (World.ownsRow.lt h.o b hb).1
  have k1 : KeepsOthers V u := by
    rw [hu]
    refine ((KeepsOthers.of_grownBy hg (fun j o e hj => ?_)).trans (KeepsOthers.setCell _ _ _)).trans (KeepsOthers.setCell _ _ _)
    obtain ⟨cur, h9⟩ := rowX_blk h.o j e
    rw [h9] at hj; cases hj; rfl
  have hh2 : ∀ k, k < V.heap.size → vl.ownBlock ≠ some k → V2.heap[k]? = V.heap[k]? := fun k hk hn => hg.block k hk (fun e => hn e.symm)
  have l2 : V2.heap[H + 1]? = some (.cells #[vl] tUs (0, 0)) := (hh2 _ (Array.getElem?_eq_some_iff.1 h.l).1 (fun e => by have := hro _ e; omega)).trans h.l
  have c2 : V2.heap[C]? = some (.cells #[.int .i64 (pre.length : Int)] 3 (0, 0)) := (hh2 _ (Array.getElem?_eq_some_iff.1 h.c).1 (fun e => by have := hro _ e; omega)).trans h.c
  have m2 : V2.heap[H + 1 + 1]? = some (.cells #[.int .i64 (m : Int)] 3 (0, 0)) := (hh2 _ (Array.getElem?_eq_some_iff.1 h.mo).1 (fun e => by have := hro _ e; omega)).trans h.mo
  have hoth : ∀ k, k ≠ H + 1 → k ≠ C → u.heap[k]? = V2.heap[k]? := fun k h1 h2 => by
    rw [hu, heap_setCell_other _ _ _ _ (by simpa using h2), heap_setCell_other _ _ _ _ (by simpa using h1)]
  have hsz : u.heap.size = V2.heap.size := by rw [hu]; simp
  refine ⟨k1.from _, fun k hk => ?_, ?_⟩
  · rw [hoth k (fun e => h.zl (e ▸ hk)) (fun e => h.zc (e ▸ hk))]
    exact hh2 k (h.zb k hk) (fun e => h.zr k e hk)
  · refine ⟨?_, ?_, ?_, ?_, ?_, h.zl, h.zc, fun b hb2 hz => ?_, fun k hk => ?_, ?_⟩
    · rw [hu]
      exact ((h.bel.grown hg (Nat.le_trans hH h.sz) (fun r e => by have := hro r e; omega)).setCell (p := ⟨H + 1, 0, none⟩) (by simp) _).setCell (p := ⟨C, 0, none⟩) (by simp; omega) _
    · rw [hu, heap_setCell_other _ _ _ _ (by simp; omega), heap_setCell_same V2 (H + 1) 0 _ _ _ l2]; rfl
    · rw [nmE_snoc]
      exact row_kept ho (fun b hb2 => hoth b (fun e => by have := (World.ownsRow.lt ho b hb2).1; omega) (fun e => by have := (World.ownsRow.lt ho b hb2).1; omega))
    · have c3 : (V2.setCell ⟨H + 1, 0, none⟩ v2).heap[C]? = some (.cells #[.int .i64 (pre.length : Int)] 3 (0, 0)) := (heap_setCell_other _ _ _ _ (by simp; omega)).trans c2
      rw [hu, heap_setCell_same _ C 0 _ _ _ c3, List.length_append, show ((pre.length + [x].length : Nat) : Int) = (pre.length : Int) + 1 by simp]; rfl
    · rw [hoth _ (by omega) (by omega)]; exact m2
    · rcases hb b hb2 with h9 | h9
      · exact h.zr b h9 hz
      · have := h.zb b hz; omega
    · have := h.zb k hk; have := hg.size; omega
    · have := h.sz; have := hg.size; omega
end Go.Proofs.Ytibolgpaolnheac
namespace Go.Proofs.Ytibolgpaolnheac
set_option linter.unusedVariables false
set_option linter.unusedSimpArgs false
open Go.RowKit Go.Shelf
attribute [local go_sem] Oper.semAt_some
theorem name_actN {F : Fence} {n : Nat} {P : Program} {c : Code} {Q : Exit → Act → World → Prop} {t : Array Value} {d : List Deferred} {w : World} (h : ∀ T : Array Value, T = t → c.wpIn F n P Q { tmps := T, defers := d } w) : c.wpIn F n P Q { tmps := t, defers := d } w := h t rfl
section
set_option maxRecDepth 100000
set_option maxHeartbeats 6400000
theorem along_t {w : World} {g S : Nat} {P : List (List Ent)} {v : Value} {vs : List Value} (h : IdxAt w g S P v vs) (ht : Tid S P) (hS : S ≤ 64) (hPl : P.length ≤ 4398046511104) (kd : Int) (s1 s2 n : Nat) : Calls Try.prog 26 #[.pointer (some ⟨g, 0, none⟩), opw kd s1 s2 n] w fun e w' => ∃ v', e = .returned v' ∧ OwnU w' w.heap.size v' (nmE ((if kd = 10 then downL P (s1, s2) else upL P (s1, s2)).take (n % 64))) ∧ Below w.heap.size w w' := by
  refine (callsIn_wide (n := 12)).1 ?_
  have HZ : Hid (IdxAt w g S P v vs) := h
  have HTD : Hid (Tid S P) := ht
  obtain ⟨px, hpx⟩ : ∃ px, px = some (⟨g, 0, none⟩ : Addr) := ⟨_, rfl⟩
  rw [← hpx]
  have HPX : Hid (px = some (⟨g, 0, none⟩ : Addr)) := hpx
  clear h ht hpx
  obtain ⟨mm, hmm⟩ : ∃ mm : Nat, mm = n % 64 := ⟨_, rfl⟩
  have HMM : Hid ((n : Int) % 64 = (mm : Int)) := (show _ = _ by omega)
  rw [← hmm]
  have hm64 : mm < 64 := by omega
  clear hmm
  have hefn := eql_func_nil
  obtain ⟨W1, hW1⟩ : ∃ X : World, X = ((w.alloc (.cells #[.int .i64 kd, .int .u64 (s1 : Int), .int .u64 (s2 : Int), .int .u64 (n : Int)] tOp)).alloc (.cells #[.slice none 0 0] tUs)).alloc (.cells #[.int .i64 ((n : Int) % 64)] 3) := ⟨_, rfl⟩
  have HBW : Hid (Below w.heap.size w W1) := (show Below w.heap.size w W1 by rw [hW1]; exact al (al (al (Below.refl _ _) _) _) _)
  obtain ⟨H, hH⟩ : ∃ H, H = w.heap.size := ⟨_, rfl⟩
  have HH : Hid (H = w.heap.size) := hH
  have HA : Hid (W1.heap[H]? = some (.cells #[.int .i64 kd, .int .u64 (s1 : Int), .int .u64 (s2 : Int), .int .u64 (n : Int)] tOp (0, 0)) ∧ W1.heap[H + 1]? = some (.cells #[.slice none 0 0] tUs (0, 0)) ∧ W1.heap[H + 1 + 1]? = some (.cells #[.int .i64 ((n : Int) % 64)] 3 (0, 0))) := (show _ ∧ _ ∧ _ by
    rw [hW1, hH]
    have h2 := two_new w (.cells #[.int .i64 kd, .int .u64 (s1 : Int), .int .u64 (s2 : Int), .int .u64 (n : Int)] tOp) (.cells #[.slice none 0 0] tUs)
    have h3 := heap_alloc_new ((w.alloc (.cells #[.int .i64 kd, .int .u64 (s1 : Int), .int .u64 (s2 : Int), .int .u64 (n : Int)] tOp)).alloc (.cells #[.slice none 0 0] tUs)) (.cells #[.int .i64 ((n : Int) % 64)] 3)
    rw [World.size_alloc, World.size_alloc] at h3
    exact ⟨(Below.heap_alloc _ _ _ (by simp; omega)).trans h2.1, (Below.heap_alloc _ _ _ (by simp)).trans h2.2, h3⟩)
  obtain ⟨m, hm⟩ : ∃ m : Int, m = (n : Int) % 64 := ⟨_, rfl⟩
  have HME : Hid (m = (mm : Int)) := hm.trans HMM.out
  refine callsIn_of_wp_marks Try.func26 rfl trivial ?_ rfl
  simp only [Try.ntmps26, List.size_toArray, List.length_cons, List.length_nil, Nat.reduceAdd, Nat.reduceSub, Array.replicate_succ, Array.replicate_zero, List.push_toArray, List.append_toArray, List.nil_append, List.cons_append]
  refine wpIn_wide.2 ?_
  go_wp2_with fail
  rw [← hW1]
  simp only [← hm, ← hH]
  rw [← hm] at HA
  clear hW1 hm hH
  refine Calls.mono (up_t (.pointer px) rfl px rfl s1 s2 W1) ?_
  rintro e z ⟨rfl, hz⟩
  have HBZ : Hid (Below W1.heap.size W1 z) := (show Below _ _ _ by rw [hz]; exact al (al (Below.refl _ _) _) _)
  have ht := two_new W1 (.cells #[.pointer px] 27) (.cells #[.int .u64 (s1 : Int), .int .u64 (s2 : Int)] tSt)
  rw [← hz] at ht
  obtain ⟨gx, hgx⟩ : ∃ gx, gx = W1.heap.size := ⟨_, rfl⟩
  rw [← hgx] at ht ⊢
  have HT : Hid (z.heap[gx]? = some (.cells #[.pointer px] 27 (0, 0)) ∧ z.heap[gx + 1]? = some (.cells #[.int .u64 (s1 : Int), .int .u64 (s2 : Int)] tSt (0, 0))) := ht
  clear hz ht hgx
  have HK : Hid (∀ k o, W1.heap[k]? = some o → z.heap[k]? = some o) := fun k o h9 => (HBZ.out.block k (Array.getElem?_eq_some_iff.1 h9).1).trans h9
  have hck : z.cell? ⟨H, 0, none⟩ = some (.int .i64 kd) := by rw [cell_of_row _ _ _ _ _ _ (HK.out _ _ HA.out.1)]; rfl
  by_cases hkd : kd = 10
  · subst hkd
    go_wp2_with (first | (refine wpList_load_mid rfl tSt _ rfl H 1 rfl (sc (s1, s2)) _ (box_off (HK.out _ _ HA.out.1)) Try.underlying36 rfl info_st ?_))
    refine Calls.mono (down_t (.pointer px) rfl px rfl s1 s2 z) ?_
    rintro e y ⟨rfl, hy⟩
    have HBY : Hid (Below z.heap.size z y) := (show Below _ _ _ by rw [hy]; exact al (al (Below.refl _ _) _) _)
    have ht := two_new z (.cells #[.pointer px] 27) (.cells #[.int .u64 (s1 : Int), .int .u64 (s2 : Int)] tSt)
    rw [← hy] at ht
    obtain ⟨gy, hgy⟩ : ∃ gy, gy = z.heap.size := ⟨_, rfl⟩
    rw [← hgy] at ht ⊢
    have HT2 : Hid (y.heap[gy]? = some (.cells #[.pointer px] 27 (0, 0)) ∧ y.heap[gy + 1]? = some (.cells #[.int .u64 (s1 : Int), .int .u64 (s2 : Int)] tSt (0, 0))) := ht
    clear hy ht hgy
    have HKY : Hid (∀ k o, W1.heap[k]? = some o → y.heap[k]? = some o) := fun k o h9 => (HBY.out.block k (Array.getElem?_eq_some_iff.1 (HK.out k o h9)).1).trans (HK.out k o h9)
    have HBWY : Hid (Below w.heap.size w y) := below_next (below_next HBW.out HBZ.out) HBY.out
    have hcm : y.cell? ⟨H + 1 + 1, 0, none⟩ = some (.int .i64 m) := by rw [cell_of_row _ _ _ _ _ _ (HKY.out _ _ HA.out.2.2)]; rfl
    have hcl : y.cell? ⟨H + 1, 0, none⟩ = some (.slice none 0 0) := by rw [cell_of_row _ _ _ _ _ _ (HKY.out _ _ HA.out.2.1)]; rfl
    have HBN : Hid (Below w.heap.size w y) := HBWY.out
    obtain ⟨X, hX⟩ : ∃ X, X = downL P (s1, s2) := ⟨_, rfl⟩
    have HX : Hid (X = downL P (s1, s2)) := hX
    have HIFX : Hid ((if (10 : Int) = 10 then downL P (s1, s2) else upL P (s1, s2)) = X) := (show _ = _ by rw [HX.out]; first | rw [if_pos rfl] | rw [if_neg hkd])
    clear hX
    by_cases hm0 : m = 0
    · have HM0 : Hid (mm = 0) := (show _ = _ by have := HME.out; omega)
      subst hm0
      go_wp2_with fail
      exact ⟨_, results_tmp rfl _ _ _, _, rfl, by rw [HM0.out]; exact OwnU.nil _ _, HBN.out⟩
    · have hm0b : (m == 0) = false := by simpa using hm0
      have HM0 : Hid (0 < mm) := (show 0 < mm by have := HME.out; omega)
      obtain ⟨C, hC⟩ : ∃ C, C = y.heap.size := ⟨_, rfl⟩
      obtain ⟨z2, hz2⟩ : ∃ Y : World, Y = y.alloc (.cells #[.int .i64 0] 3) := ⟨_, rfl⟩
      have HB2 : Hid (Below y.heap.size y z2) := (show Below _ _ _ by rw [hz2]; exact al (Below.refl _ _) _)
      have HN2 : Hid (Below w.heap.size w z2) := below_next HBN.out HB2.out
      have HK2 : Hid (∀ k o, W1.heap[k]? = some o → z2.heap[k]? = some o) := (fun k o h9 => (HB2.out.block k (Array.getElem?_eq_some_iff.1 (HKY.out k o h9)).1).trans (HKY.out k o h9))
      have HC2 : Hid (z2.heap[C]? = some (.cells #[.int .i64 0] 3 (0, 0))) := (show _ = _ by rw [hz2, hC]; exact heap_alloc_new y _)
      have hCz : C < z2.heap.size := (Array.getElem?_eq_some_iff.1 HC2.out).1
      have hHC : H + 3 ≤ C := by
        have h9 := (Array.getElem?_eq_some_iff.1 (HKY.out _ _ HA.out.2.2)).1
        omega
      have hHz : H ≤ z2.heap.size := by omega
      have HSQ : Hid (SeqG Fence.wide 11 Try.prog 59 #[.pointer (some ⟨gy, 0, none⟩), .pointer (some ⟨gy + 1, 0, none⟩)] encU (EntB z2) (fun xs => xs = X) (fun pre => pre <+: X) 1125899906842624 z2) := (show SeqG Fence.wide 11 Try.prog 59 #[.pointer (some ⟨gy, 0, none⟩), .pointer (some ⟨gy + 1, 0, none⟩)] encU (EntB z2) (fun xs => xs = X) (fun pre => pre <+: X) 1125899906842624 z2 by
        have h9 := down_any 11 (by decide) gy (gy + 1) s1 s2 (HZ.out.below HN2.out) HTD.out hS hPl (by rw [← HPX.out, cell_of_row _ _ _ _ _ _ ((HB2.out.block _ (Array.getElem?_eq_some_iff.1 HT2.out.1).1).trans HT2.out.1)]; rfl) (box_range ((HB2.out.block _ (Array.getElem?_eq_some_iff.1 HT2.out.2).1).trans HT2.out.2))
        rw [← HX.out] at h9
        exact h9)
      have HA0 : Hid (Alg w z2 z2 H C mm (EntB z2) [] (.slice none 0 0)) := (show Alg w z2 z2 H C mm (EntB z2) [] (.slice none 0 0) by
        have hno : ∀ {k : Nat} {cs : Array Value} {t : TypeId}, z2.heap[k]? = some (.cells cs t (0, 0)) → t ≠ tEn → ¬ EntB z2 k := fun hk ht ⟨_, cur, fr, h9⟩ => by
          rw [hk] at h9; injection h9 with h9; injection h9 with h7 h8; exact ht h8
        have hmo := HK2.out _ _ HA.out.2.2
        rw [HME.out] at hmo
        exact ⟨by rw [HH.out]; exact HN2.out, HK2.out _ _ HA.out.2.1, OwnU.nil _ _, HC2.out, hmo, hno (HK2.out _ _ HA.out.2.1) (by decide), hno HC2.out (by decide), (fun b hb => by cases hb), fun k hk => hk.1, Nat.le_refl _⟩)
      go_wp2_with fail
      rw [← hz2]
      simp only [← hC]
      clear hz2 hC hcl hcm hck
      refine (wpIn_wide (n := 12)).1 ?_
      refine name_actN ?_
      intro T hT
      refine wpIn_rangeFunc_G rfl (by decide) (gf := 59) (lb := #[.pointer (some ⟨gy, 0, none⟩), .pointer (some ⟨gy + 1, 0, none⟩)]) (by subst hT; rfl) trivial (enters_of Try.func59 (by kernel_rfl) rfl) HSQ.out (fun k hk => hk.1) (fun _ => rfl)
        (fun pre Z V => pre.length < mm ∧ ∃ vl, Alg w z2 V H C mm Z pre vl)
        (fun c pre Z V => c = .exit 0 ∧ pre.length = mm ∧ ∃ vl, Alg w z2 V H C mm Z pre vl)
        ⟨fun s Z V V' row hs hg hr => ⟨hs.1, hs.2.elim (fun vl h9 => ⟨vl, h9.grow hHz hg hr⟩)⟩, fun s Z Z' V hs hz => ⟨hs.1, hs.2.elim (fun vl h9 => ⟨vl, h9.less hz⟩)⟩⟩
        (fun c => ⟨fun s Z V V' row hs hg hr => ⟨hs.1, hs.2.1, hs.2.2.elim (fun vl h9 => ⟨vl, h9.grow hHz hg hr⟩)⟩, fun s Z Z' V hs hz => ⟨hs.1, hs.2.1, hs.2.2.elim (fun vl h9 => ⟨vl, h9.less hz⟩)⟩⟩)
        ⟨HM0.out, _, HA0.out⟩
        (fun x a' V => ∃ Bx, z2.heap.size ≤ Bx ∧ V.heap[Bx]? = some (.cells #[.int .u64 (x.st.1 : Int), .int .u64 (x.st.2 : Int)] tSt (0, 0)) ∧ a' = { tmps := (((T.setIfInBounds 33 (sv x.st)).setIfInBounds 34 x.v).setIfInBounds 9 (.pointer (some ⟨Bx, 0, none⟩))).setIfInBounds 10 x.v, defers := [] })
        (fun x a' s A B row hs hg hr => by obtain ⟨Bx, h1, h2, h3⟩ := hs; exact ⟨Bx, h1, heap_kept h2 hg (fun r e => (hr r e).2), h3⟩)
        ?assign ?body ?done ?stop
      case assign =>
        rintro l pre Z ⟨⟨x1, x2⟩, xn⟩ V K ⟨hlt, vl, hA9⟩ hK
        subst hT
        simp only [fold2, List.setIfInBounds_toArray, List.set_cons_zero, List.set_cons_succ]
        gi_wp2
        exact hK _ _ ((KeepsOthers.alloc _ _).from _) (fun k hk => Below.heap_alloc V _ k (hA9.zb k hk)) ⟨hlt, vl, (hA9.grow hHz (World.grownBy_alloc V _ none) (fun r e => by cases e)).less (fun j hj => .inl hj)⟩ ⟨V.heap.size, hA9.sz, heap_alloc_new V _, rfl⟩
      case body =>
        rintro l pre Z ⟨⟨x1, x2⟩, xn⟩ a' V hl hlr ⟨hlt, vl, hA9⟩ ⟨Bx, hBx, hX9, rfl⟩ hln
        have HAL : Hid (Alg w z2 V H C mm Z pre vl) := hA9
        have HLT : Hid (pre.length < mm) := hlt
        obtain ⟨al9, cl9, hvl, -⟩ := OwnU.val hA9.o
        obtain ⟨T0, hT0⟩ : ∃ T0, T0 = (nmE pre).length := ⟨_, rfl⟩
        have HT0 : Hid (T0 ≤ 200) := (show T0 ≤ 200 by rw [hT0, nmE_len]; omega)
        have HTE : Hid (T0 = (nmE pre).length) := hT0
        rw [← hT0] at hvl
        subst hvl
        have hcl : V.cell? ⟨H + 1, 0, none⟩ = some (.slice al9 T0 cl9) := by rw [cell_of_row _ _ _ _ _ _ hA9.l]; rfl
        have hb0 : V.cell? ⟨Bx, 0, none⟩ = some (.int .u64 (x1 : Int)) := by rw [cell_of_row _ _ _ _ _ _ hX9]; rfl
        have hb1 : V.cell? ⟨Bx, 1, none⟩ = some (.int .u64 (x2 : Int)) := by rw [cell_of_row _ _ _ _ _ _ hX9]; rfl
        have HTW : Hid _ := two_k (B := z2.heap.size) (.slice al9 T0 cl9) (nmE pre) x1 x2 xn V hA9.o hA9.sz (by have := HT0.out; have := HTE.out; omega)
        clear hA9 hX9 hT0 hlt hln
        subst hT
        simp only [List.setIfInBounds_toArray, List.set_cons_zero, List.set_cons_succ]
        gi_wp2
        refine ⟨trivial, ?_⟩
        refine (callsIn_round.2 HTW.out).mono ?_
        rintro e V2 ⟨v2, rfl, ho2, hg2, hbk2⟩
        have hAL := HAL.out
        have hro : ∀ b, (Value.slice al9 T0 cl9).ownBlock = some b → z2.heap.size ≤ b := fun b hb => (World.ownsRow.lt hAL.o b hb).1
        have kp : ∀ {k : Nat} {o : Obj}, V.heap[k]? = some o → k < z2.heap.size → V2.heap[k]? = some o := fun hk h9 => (hg2.block _ (Array.getElem?_eq_some_iff.1 hk).1 (fun e => by have := hro _ e.symm; omega)).trans hk
        have hl2 := kp hAL.l (by omega)
        have hc2 := kp hAL.c hCz
        have hm2 := kp hAL.mo (by omega)
        obtain ⟨kk, hkk⟩ : ∃ kk, kk = pre.length := ⟨_, rfl⟩
        have HST : Hid (∀ u, u = (V2.setCell ⟨H + 1, 0, none⟩ v2).setCell ⟨C, 0, none⟩ (.int .i64 ((kk : Int) + 1)) → KeepsFrom z2.heap.size V u ∧ KeepZ Z V u ∧ Alg w z2 u H C mm Z (pre ++ [(⟨(x1, x2), xn⟩ : Ent)]) v2) := (fun u hu => hAL.step hHz hHC ⟨(x1, x2), xn⟩ V2 v2 hg2 ho2 hbk2 hCz u (by rw [hu, hkk]))
        rw [← hkk] at hc2
        have HKK : Hid (kk = pre.length) := hkk
        obtain ⟨a2, c2, hv2, -⟩ := OwnU.val ho2
        obtain ⟨T2, hT2⟩ : ∃ T2, T2 = (nmE pre ++ [x1, x2, xn]).length := ⟨_, rfl⟩
        rw [← hT2] at hv2
        subst hv2
        have hcl2 : V2.cell? ⟨H + 1, 0, none⟩ = some (.slice al9 T0 cl9) := by rw [cell_of_row _ _ _ _ _ _ hl2]; rfl
        have hfl2 : V2.frozen? ⟨H + 1, 0, none⟩ = false := by simp [World.frozen?, hl2]
        have hcc2 : V2.cell? ⟨C, 0, none⟩ = some (.int .i64 (kk : Int)) := by rw [cell_of_row _ _ _ _ _ _ hc2]; rfl
        have hfc2 : V2.frozen? ⟨C, 0, none⟩ = false := by simp [World.frozen?, hc2]
        have hcm2 : V2.cell? ⟨H + 1 + 1, 0, none⟩ = some (.int .i64 (mm : Int)) := by rw [cell_of_row _ _ _ _ _ _ hm2]; rfl
        have hne1 : ¬ H + 1 = C := by omega
        have hne2 : ¬ C = H + 1 := by omega
        have hne3 : ¬ H + 1 + 1 = C := by omega
        have hne4 : ¬ C = H + 1 + 1 := by omega
        have hwk : IntKind.i64.wrap ((kk : Int) + 1) = (kk : Int) + 1 := by rw [IntKind.wrap_i64]; have := HLT.out; omega
        clear hl2 hc2 hm2 hkk hT2 ho2 hg2 hbk2 hAL hro kp
        by_cases hE : kk + 1 = mm
        · have hEi : (kk : Int) + 1 = (mm : Int) := by omega
          have HLE : Hid ((pre ++ [(⟨(x1, x2), xn⟩ : Ent)]).length = mm) := (show _ = _ by rw [List.length_append]; simp; have := HKK.out; omega)
          have HEI : Hid ((kk : Int) + 1 = (mm : Int)) := hEi
          gi_wp2
          have h9 := HST.out ((V2.setCell ⟨H + 1, 0, none⟩ (.slice a2 T2 c2)).setCell ⟨C, 0, none⟩ (.int .i64 (mm : Int))) (by rw [HEI.out])
          exact ⟨h9.1, h9.2.1, rfl, HLE.out, _, h9.2.2⟩
        · have hEi : ¬ (kk : Int) + 1 = (mm : Int) := by omega
          have hEb : (((kk : Int) + 1) == (mm : Int)) = false := by simpa using hEi
          have HLE : Hid ((pre ++ [(⟨(x1, x2), xn⟩ : Ent)]).length < mm) := (show _ < _ by rw [List.length_append]; simp; have := HKK.out; have := HLT.out; omega)
          gi_wp2
          exact ⟨(HST.out _ rfl).1, (HST.out _ rfl).2.1, HLE.out, _, (HST.out _ rfl).2.2⟩
      case stop =>
        rintro D c pre Z V hD hpre ⟨rfl, hlt, vl, hA9⟩ hK
        have HAL : Hid (Alg w z2 V H C mm Z pre vl) := hA9
        have HRS : Hid (X.take mm = pre) := (show _ = _ by have h9 := List.prefix_iff_eq_take.1 hpre; rw [hlt] at h9; exact h9.symm)
        obtain ⟨al9, cl9, hvl, -⟩ := OwnU.val hA9.o
        obtain ⟨T0, hT0⟩ : ∃ T0, T0 = (nmE pre).length := ⟨_, rfl⟩
        rw [← hT0] at hvl
        subst hvl
        have hcl9 : V.cell? ⟨H + 1, 0, none⟩ = some (.slice al9 T0 cl9) := by rw [cell_of_row _ _ _ _ _ _ hA9.l]; rfl
        have HDV : Hid (V.heap[D]? = some (.deferred (some []))) := hK
        have HDD : Hid (w.heap.size ≤ D) := (show _ ≤ _ by have := HN2.out.size; omega)
        clear hA9 hK hD hpre hlt hT0
        subst hT
        refine wpIn_wide.2 ?_
        go_wp2_with fail
        refine ⟨by simp, .inl ⟨_, _, rfl, run_takeDeferred HDV.out, ?_⟩⟩
        refine ⟨_, results_tmp rfl _ _ _, _, rfl, ?_, ?_⟩
        · first | rw [HIFX.out, HRS.out] | rw [← HX.out, HRS.out]
          exact OwnU.base (row_kept HAL.out.o (fun b hb => World.putObj_heap_other (fun e => by
            obtain ⟨cur, h9⟩ := rowX_blk HAL.out.o b hb
            rw [e, HDV.out] at h9
            cases h9))) HN2.out.size
        · have h9 := HAL.out.bel
          rw [HH.out] at h9
          exact h9.trans (belowK_b (w := w) (Nat.le_refl _) _ D _ _ HDD.out HDV.out rfl rfl)
      case done =>
        rintro D ys Z V hD hys ⟨hlt, vl, hA9⟩ hK
        obtain rfl : X = ys := hys.symm
        have HAL : Hid (Alg w z2 V H C mm Z X vl) := hA9
        have HRS : Hid (X.take mm = X) := (show _ = _ from List.take_of_length_le (by omega))
        obtain ⟨al9, cl9, hvl, -⟩ := OwnU.val hA9.o
        obtain ⟨T0, hT0⟩ : ∃ T0, T0 = (nmE X).length := ⟨_, rfl⟩
        rw [← hT0] at hvl
        subst hvl
        have hcl9 : V.cell? ⟨H + 1, 0, none⟩ = some (.slice al9 T0 cl9) := by rw [cell_of_row _ _ _ _ _ _ hA9.l]; rfl
        have HDV : Hid (V.heap[D]? = some (.deferred (some []))) := hK
        have HDD : Hid (w.heap.size ≤ D) := (show _ ≤ _ by have := HN2.out.size; omega)
        clear hA9 hK hD hys hlt hT0
        subst hT
        dsimp only
        go_wp2_with fail
        refine ⟨by simp, .inl ⟨_, _, rfl, run_takeDeferred HDV.out, ?_⟩⟩
        refine ⟨_, results_tmp rfl _ _ _, _, rfl, ?_, ?_⟩
        · first | rw [HIFX.out, HRS.out] | rw [← HX.out, HRS.out]
          exact OwnU.base (row_kept HAL.out.o (fun b hb => World.putObj_heap_other (fun e => by
            obtain ⟨cur, h9⟩ := rowX_blk HAL.out.o b hb
            rw [e, HDV.out] at h9
            cases h9))) HN2.out.size
        · have h9 := HAL.out.bel
          rw [HH.out] at h9
          exact h9.trans (belowK_b (w := w) (Nat.le_refl _) _ D _ _ HDD.out HDV.out rfl rfl)
  · have hkdb : (kd == 10) = false := by simpa using hkd
    have HBWZ : Hid (Below w.heap.size w z) := below_next HBW.out HBZ.out
    have hcm : z.cell? ⟨H + 1 + 1, 0, none⟩ = some (.int .i64 m) := by rw [cell_of_row _ _ _ _ _ _ (HK.out _ _ HA.out.2.2)]; rfl
    have hcl : z.cell? ⟨H + 1, 0, none⟩ = some (.slice none 0 0) := by rw [cell_of_row _ _ _ _ _ _ (HK.out _ _ HA.out.2.1)]; rfl
    have HBN : Hid (Below w.heap.size w z) := HBWZ.out
    obtain ⟨X, hX⟩ : ∃ X, X = upL P (s1, s2) := ⟨_, rfl⟩
    have HX : Hid (X = upL P (s1, s2)) := hX
    have HIFX : Hid ((if kd = 10 then downL P (s1, s2) else upL P (s1, s2)) = X) := (show _ = _ by rw [HX.out]; first | rw [if_pos rfl] | rw [if_neg hkd])
    clear hX
    by_cases hm0 : m = 0
    · have HM0 : Hid (mm = 0) := (show _ = _ by have := HME.out; omega)
      subst hm0
      go_wp2_with fail
      exact ⟨_, results_tmp rfl _ _ _, _, rfl, by rw [HM0.out]; exact OwnU.nil _ _, HBN.out⟩
    · have hm0b : (m == 0) = false := by simpa using hm0
      have HM0 : Hid (0 < mm) := (show 0 < mm by have := HME.out; omega)
      obtain ⟨C, hC⟩ : ∃ C, C = z.heap.size := ⟨_, rfl⟩
      obtain ⟨z2, hz2⟩ : ∃ Y : World, Y = z.alloc (.cells #[.int .i64 0] 3) := ⟨_, rfl⟩
      have HB2 : Hid (Below z.heap.size z z2) := (show Below _ _ _ by rw [hz2]; exact al (Below.refl _ _) _)
      have HN2 : Hid (Below w.heap.size w z2) := below_next HBN.out HB2.out
      have HK2 : Hid (∀ k o, W1.heap[k]? = some o → z2.heap[k]? = some o) := (fun k o h9 => (HB2.out.block k (Array.getElem?_eq_some_iff.1 (HK.out k o h9)).1).trans (HK.out k o h9))
      have HC2 : Hid (z2.heap[C]? = some (.cells #[.int .i64 0] 3 (0, 0))) := (show _ = _ by rw [hz2, hC]; exact heap_alloc_new z _)
      have hCz : C < z2.heap.size := (Array.getElem?_eq_some_iff.1 HC2.out).1
      have hHC : H + 3 ≤ C := by
        have h9 := (Array.getElem?_eq_some_iff.1 (HK.out _ _ HA.out.2.2)).1
        omega
      have hHz : H ≤ z2.heap.size := by omega
      have HSQ : Hid (SeqG Fence.wide 11 Try.prog 57 #[.pointer (some ⟨gx, 0, none⟩), .pointer (some ⟨gx + 1, 0, none⟩)] encU (EntB z2) (fun xs => xs = X) (fun pre => pre <+: X) X.length z2) := (show SeqG Fence.wide 11 Try.prog 57 #[.pointer (some ⟨gx, 0, none⟩), .pointer (some ⟨gx + 1, 0, none⟩)] encU (EntB z2) (fun xs => xs = X) (fun pre => pre <+: X) X.length z2 by
        have h9 := up_any 11 (by decide) gx (gx + 1) s1 s2 (HZ.out.below HN2.out) HTD.out hS hPl (by rw [← HPX.out, cell_of_row _ _ _ _ _ _ ((HB2.out.block _ (Array.getElem?_eq_some_iff.1 HT.out.1).1).trans HT.out.1)]; rfl) (box_range ((HB2.out.block _ (Array.getElem?_eq_some_iff.1 HT.out.2).1).trans HT.out.2))
        rw [← HX.out] at h9
        exact h9)
      have HA0 : Hid (Alg w z2 z2 H C mm (EntB z2) [] (.slice none 0 0)) := (show Alg w z2 z2 H C mm (EntB z2) [] (.slice none 0 0) by
        have hno : ∀ {k : Nat} {cs : Array Value} {t : TypeId}, z2.heap[k]? = some (.cells cs t (0, 0)) → t ≠ tEn → ¬ EntB z2 k := fun hk ht ⟨_, cur, fr, h9⟩ => by
          rw [hk] at h9; injection h9 with h9; injection h9 with h7 h8; exact ht h8
        have hmo := HK2.out _ _ HA.out.2.2
        rw [HME.out] at hmo
        exact ⟨by rw [HH.out]; exact HN2.out, HK2.out _ _ HA.out.2.1, OwnU.nil _ _, HC2.out, hmo, hno (HK2.out _ _ HA.out.2.1) (by decide), hno HC2.out (by decide), (fun b hb => by cases hb), fun k hk => hk.1, Nat.le_refl _⟩)
      go_wp2_with fail
      rw [← hz2]
      simp only [← hC]
      clear hz2 hC hcl hcm hck
      refine (wpIn_wide (n := 12)).1 ?_
      refine name_actN ?_
      intro T hT
      refine wpIn_rangeFunc_G rfl (by decide) (gf := 57) (lb := #[.pointer (some ⟨gx, 0, none⟩), .pointer (some ⟨gx + 1, 0, none⟩)]) (by subst hT; rfl) trivial (enters_of Try.func57 (by kernel_rfl) rfl) HSQ.out (fun k hk => hk.1) (fun _ => rfl)
        (fun pre Z V => pre.length < mm ∧ ∃ vl, Alg w z2 V H C mm Z pre vl)
        (fun c pre Z V => c = .exit 0 ∧ pre.length = mm ∧ ∃ vl, Alg w z2 V H C mm Z pre vl)
        ⟨fun s Z V V' row hs hg hr => ⟨hs.1, hs.2.elim (fun vl h9 => ⟨vl, h9.grow hHz hg hr⟩)⟩, fun s Z Z' V hs hz => ⟨hs.1, hs.2.elim (fun vl h9 => ⟨vl, h9.less hz⟩)⟩⟩
        (fun c => ⟨fun s Z V V' row hs hg hr => ⟨hs.1, hs.2.1, hs.2.2.elim (fun vl h9 => ⟨vl, h9.grow hHz hg hr⟩)⟩, fun s Z Z' V hs hz => ⟨hs.1, hs.2.1, hs.2.2.elim (fun vl h9 => ⟨vl, h9.less hz⟩)⟩⟩)
        ⟨HM0.out, _, HA0.out⟩
        (fun x a' V => ∃ Bx, z2.heap.size ≤ Bx ∧ V.heap[Bx]? = some (.cells #[.int .u64 (x.st.1 : Int), .int .u64 (x.st.2 : Int)] tSt (0, 0)) ∧ a' = { tmps := (((T.setIfInBounds 33 (sv x.st)).setIfInBounds 34 x.v).setIfInBounds 9 (.pointer (some ⟨Bx, 0, none⟩))).setIfInBounds 10 x.v, defers := [] })
        (fun x a' s A B row hs hg hr => by obtain ⟨Bx, h1, h2, h3⟩ := hs; exact ⟨Bx, h1, heap_kept h2 hg (fun r e => (hr r e).2), h3⟩)
        ?assign ?body ?done ?stop
      case assign =>
        rintro l pre Z ⟨⟨x1, x2⟩, xn⟩ V K ⟨hlt, vl, hA9⟩ hK
        subst hT
        simp only [fold2, List.setIfInBounds_toArray, List.set_cons_zero, List.set_cons_succ]
        gi_wp2
        exact hK _ _ ((KeepsOthers.alloc _ _).from _) (fun k hk => Below.heap_alloc V _ k (hA9.zb k hk)) ⟨hlt, vl, (hA9.grow hHz (World.grownBy_alloc V _ none) (fun r e => by cases e)).less (fun j hj => .inl hj)⟩ ⟨V.heap.size, hA9.sz, heap_alloc_new V _, rfl⟩
      case body =>
        rintro l pre Z ⟨⟨x1, x2⟩, xn⟩ a' V hl hlr ⟨hlt, vl, hA9⟩ ⟨Bx, hBx, hX9, rfl⟩ hln
        have HAL : Hid (Alg w z2 V H C mm Z pre vl) := hA9
        have HLT : Hid (pre.length < mm) := hlt
        obtain ⟨al9, cl9, hvl, -⟩ := OwnU.val hA9.o
        obtain ⟨T0, hT0⟩ : ∃ T0, T0 = (nmE pre).length := ⟨_, rfl⟩
        have HT0 : Hid (T0 ≤ 200) := (show T0 ≤ 200 by rw [hT0, nmE_len]; omega)
        have HTE : Hid (T0 = (nmE pre).length) := hT0
        rw [← hT0] at hvl
        subst hvl
        have hcl : V.cell? ⟨H + 1, 0, none⟩ = some (.slice al9 T0 cl9) := by rw [cell_of_row _ _ _ _ _ _ hA9.l]; rfl
        have hb0 : V.cell? ⟨Bx, 0, none⟩ = some (.int .u64 (x1 : Int)) := by rw [cell_of_row _ _ _ _ _ _ hX9]; rfl
        have hb1 : V.cell? ⟨Bx, 1, none⟩ = some (.int .u64 (x2 : Int)) := by rw [cell_of_row _ _ _ _ _ _ hX9]; rfl
        have HTW : Hid _ := two_k (B := z2.heap.size) (.slice al9 T0 cl9) (nmE pre) x1 x2 xn V hA9.o hA9.sz (by have := HT0.out; have := HTE.out; omega)
        clear hA9 hX9 hT0 hlt hln
        subst hT
        simp only [List.setIfInBounds_toArray, List.set_cons_zero, List.set_cons_succ]
        gi_wp2
        refine ⟨trivial, ?_⟩
        refine (callsIn_round.2 HTW.out).mono ?_
        rintro e V2 ⟨v2, rfl, ho2, hg2, hbk2⟩
        have hAL := HAL.out
        have hro : ∀ b, (Value.slice al9 T0 cl9).ownBlock = some b → z2.heap.size ≤ b := fun b hb => (World.ownsRow.lt hAL.o b hb).1
        have kp : ∀ {k : Nat} {o : Obj}, V.heap[k]? = some o → k < z2.heap.size → V2.heap[k]? = some o := fun hk h9 => (hg2.block _ (Array.getElem?_eq_some_iff.1 hk).1 (fun e => by have := hro _ e.symm; omega)).trans hk
        have hl2 := kp hAL.l (by omega)
        have hc2 := kp hAL.c hCz
        have hm2 := kp hAL.mo (by omega)
        obtain ⟨kk, hkk⟩ : ∃ kk, kk = pre.length := ⟨_, rfl⟩
        have HST : Hid (∀ u, u = (V2.setCell ⟨H + 1, 0, none⟩ v2).setCell ⟨C, 0, none⟩ (.int .i64 ((kk : Int) + 1)) → KeepsFrom z2.heap.size V u ∧ KeepZ Z V u ∧ Alg w z2 u H C mm Z (pre ++ [(⟨(x1, x2), xn⟩ : Ent)]) v2) := (fun u hu => hAL.step hHz hHC ⟨(x1, x2), xn⟩ V2 v2 hg2 ho2 hbk2 hCz u (by rw [hu, hkk]))
        rw [← hkk] at hc2
        have HKK : Hid (kk = pre.length) := hkk
        obtain ⟨a2, c2, hv2, -⟩ := OwnU.val ho2
        obtain ⟨T2, hT2⟩ : ∃ T2, T2 = (nmE pre ++ [x1, x2, xn]).length := ⟨_, rfl⟩
        rw [← hT2] at hv2
        subst hv2
        have hcl2 : V2.cell? ⟨H + 1, 0, none⟩ = some (.slice al9 T0 cl9) := by rw [cell_of_row _ _ _ _ _ _ hl2]; rfl
        have hfl2 : V2.frozen? ⟨H + 1, 0, none⟩ = false := by simp [World.frozen?, hl2]
        have hcc2 : V2.cell? ⟨C, 0, none⟩ = some (.int .i64 (kk : Int)) := by rw [cell_of_row _ _ _ _ _ _ hc2]; rfl
        have hfc2 : V2.frozen? ⟨C, 0, none⟩ = false := by simp [World.frozen?, hc2]
        have hcm2 : V2.cell? ⟨H + 1 + 1, 0, none⟩ = some (.int .i64 (mm : Int)) := by rw [cell_of_row _ _ _ _ _ _ hm2]; rfl
        have hne1 : ¬ H + 1 = C := by omega
        have hne2 : ¬ C = H + 1 := by omega
        have hne3 : ¬ H + 1 + 1 = C := by omega
        have hne4 : ¬ C = H + 1 + 1 := by omega
        have hwk : IntKind.i64.wrap ((kk : Int) + 1) = (kk : Int) + 1 := by rw [IntKind.wrap_i64]; have := HLT.out; omega
        clear hl2 hc2 hm2 hkk hT2 ho2 hg2 hbk2 hAL hro kp
        by_cases hE : kk + 1 = mm
        · have hEi : (kk : Int) + 1 = (mm : Int) := by omega
          have HLE : Hid ((pre ++ [(⟨(x1, x2), xn⟩ : Ent)]).length = mm) := (show _ = _ by rw [List.length_append]; simp; have := HKK.out; omega)
          have HEI : Hid ((kk : Int) + 1 = (mm : Int)) := hEi
          gi_wp2
          have h9 := HST.out ((V2.setCell ⟨H + 1, 0, none⟩ (.slice a2 T2 c2)).setCell ⟨C, 0, none⟩ (.int .i64 (mm : Int))) (by rw [HEI.out])
          exact ⟨h9.1, h9.2.1, rfl, HLE.out, _, h9.2.2⟩
        · have hEi : ¬ (kk : Int) + 1 = (mm : Int) := by omega
          have hEb : (((kk : Int) + 1) == (mm : Int)) = false := by simpa using hEi
          have HLE : Hid ((pre ++ [(⟨(x1, x2), xn⟩ : Ent)]).length < mm) := (show _ < _ by rw [List.length_append]; simp; have := HKK.out; have := HLT.out; omega)
          gi_wp2
          exact ⟨(HST.out _ rfl).1, (HST.out _ rfl).2.1, HLE.out, _, (HST.out _ rfl).2.2⟩
      case stop =>
        rintro D c pre Z V hD hpre ⟨rfl, hlt, vl, hA9⟩ hK
        have HAL : Hid (Alg w z2 V H C mm Z pre vl) := hA9
        have HRS : Hid (X.take mm = pre) := (show _ = _ by have h9 := List.prefix_iff_eq_take.1 hpre; rw [hlt] at h9; exact h9.symm)
        obtain ⟨al9, cl9, hvl, -⟩ := OwnU.val hA9.o
        obtain ⟨T0, hT0⟩ : ∃ T0, T0 = (nmE pre).length := ⟨_, rfl⟩
        rw [← hT0] at hvl
        subst hvl
        have hcl9 : V.cell? ⟨H + 1, 0, none⟩ = some (.slice al9 T0 cl9) := by rw [cell_of_row _ _ _ _ _ _ hA9.l]; rfl
        have HDV : Hid (V.heap[D]? = some (.deferred (some []))) := hK
        have HDD : Hid (w.heap.size ≤ D) := (show _ ≤ _ by have := HN2.out.size; omega)
        clear hA9 hK hD hpre hlt hT0
        subst hT
        refine wpIn_wide.2 ?_
        go_wp2_with fail
        refine ⟨by simp, .inl ⟨_, _, rfl, run_takeDeferred HDV.out, ?_⟩⟩
        refine ⟨_, results_tmp rfl _ _ _, _, rfl, ?_, ?_⟩
        · first | rw [HIFX.out, HRS.out] | rw [← HX.out, HRS.out]
          exact OwnU.base (row_kept HAL.out.o (fun b hb => World.putObj_heap_other (fun e => by
            obtain ⟨cur, h9⟩ := rowX_blk HAL.out.o b hb
            rw [e, HDV.out] at h9
            cases h9))) HN2.out.size
        · have h9 := HAL.out.bel
          rw [HH.out] at h9
          exact h9.trans (belowK_b (w := w) (Nat.le_refl _) _ D _ _ HDD.out HDV.out rfl rfl)
      case done =>
        rintro D ys Z V hD hys ⟨hlt, vl, hA9⟩ hK
        obtain rfl : X = ys := hys.symm
        have HAL : Hid (Alg w z2 V H C mm Z X vl) := hA9
        have HRS : Hid (X.take mm = X) := (show _ = _ from List.take_of_length_le (by omega))
        obtain ⟨al9, cl9, hvl, -⟩ := OwnU.val hA9.o
        obtain ⟨T0, hT0⟩ : ∃ T0, T0 = (nmE X).length := ⟨_, rfl⟩
        rw [← hT0] at hvl
        subst hvl
        have hcl9 : V.cell? ⟨H + 1, 0, none⟩ = some (.slice al9 T0 cl9) := by rw [cell_of_row _ _ _ _ _ _ hA9.l]; rfl
        have HDV : Hid (V.heap[D]? = some (.deferred (some []))) := hK
        have HDD : Hid (w.heap.size ≤ D) := (show _ ≤ _ by have := HN2.out.size; omega)
        clear hA9 hK hD hys hlt hT0
        subst hT
        dsimp only
        go_wp2_with fail
        refine ⟨by simp, .inl ⟨_, _, rfl, run_takeDeferred HDV.out, ?_⟩⟩
        refine ⟨_, results_tmp rfl _ _ _, _, rfl, ?_, ?_⟩
        · first | rw [HIFX.out, HRS.out] | rw [← HX.out, HRS.out]
          exact OwnU.base (row_kept HAL.out.o (fun b hb => World.putObj_heap_other (fun e => by
            obtain ⟨cur, h9⟩ := rowX_blk HAL.out.o b hb
            rw [e, HDV.out] at h9
            cases h9))) HN2.out.size
        · have h9 := HAL.out.bel
          rw [HH.out] at h9
          exact h9.trans (belowK_b (w := w) (Nat.le_refl _) _ D _ _ HDD.out HDV.out rfl rfl)
end
end Go.Proofs.Ytibolgpaolnheac
namespace Go.Proofs.Ytibolgpaolnheac
set_option linter.unusedVariables false
set_option linter.unusedSimpArgs false
open Go.RowKit Go.Shelf
theorem info_op5 : (Try.prog.info? tOp).map (·.size) = some 4 := by kernel_rfl
abbrev bitN (b : Bool) : Nat := if b then 1 else 0
/-- the first of a row, as numbers -/
def firstN (L : List Ent) : List Nat := match L.head? with | none => [0, 0, 0, 0] | some y => [1, y.st.1, y.st.2, y.n]
/-- the answer to a call -/
def ansL (P : List (List Ent)) (kd : Int) (s : St) (n p i : Nat) (ok : Bool) : List Nat :=
  if kd = 1 then [bitN (!ok)] else if kd = 2 then [if ok then ((P.getD p []).map (·.n)).getD i 0 else 0, bitN ok] else if kd = 3 then [if ok then ((P.getD p []).map (·.n)).getD i 0 else 0, bitN ok]
  else if kd = 4 then [P.flatten.length] else if kd = 5 then P.map List.length else if kd = 6 then [p, i, bitN ok] else if kd = 7 then firstN (upL P s) else if kd = 8 then firstN (downL P s)
  else if kd = 9 then nmE ((upL P s).take (n % 64)) else if kd = 10 then nmE ((downL P s).take (n % 64)) else []
/-- the pages behind a call -/
def nextP (S : Nat) (P : List (List Ent)) (kd : Int) (s : St) (n p i : Nat) (ok : Bool) : List (List Ent) :=
  if kd = 1 then putP S P p i ok ⟨s, n⟩ else if kd = 2 then (if ok then remP S P p i else P) else P
theorem bit_b (b : Bool) (w : World) : Calls Try.prog 18 #[.bool b] w fun e w' => e = .returned (.int .u64 ((bitN b : Nat) : Int)) ∧ w' = w := bit_t b w
theorem nth_n (X : List Ent) (i : Nat) (h : i < X.length) : X[i].n = (X.map (·.n)).getD i 0 := by simp [List.getD, h]
theorem Lies.refl (w : World) (v : Value) : Lies w v v := .inl rfl
section
set_option maxRecDepth 20000
set_option maxHeartbeats 6400000
theorem ask_t {w : World} {g S : Nat} {P : List (List Ent)} {v : Value} {vs : List Value} (h : IdxAt w g S P v vs) (ht : Tid S P) (hS : 4 ≤ S ∧ S ≤ 64) (hPl : P.length ≤ 4398046511104) (kd : Int) (s1 s2 n : Nat) : Calls Try.prog 7 #[.pointer (some ⟨g, 0, none⟩), opw kd s1 s2 n] w fun e w' => ∃ p i ok v' vs' vl, PlaceIs P (s1, s2) p i ok ∧ e = .returned vl ∧ OwnU w' w.heap.size vl (ansL P kd (s1, s2) n p i ok) ∧ IdxAt w' g S (nextP S P kd (s1, s2) n p i ok) v' vs' ∧ Lies w v v' ∧ Chg (foot g v) w w' := by
  obtain ⟨w1, hw1⟩ : ∃ X : World, X = w.alloc (.cells #[.int .i64 kd, .int .u64 (s1 : Int), .int .u64 (s2 : Int), .int .u64 (n : Int)] tOp) := ⟨_, rfl⟩
  have HB1 : Hid (Below w.heap.size w w1) := (show Below w.heap.size w w1 by rw [hw1]; exact al (Below.refl _ _) _)
  have HX1 : Hid (w1.heap[w.heap.size]? = some (.cells #[.int .i64 kd, .int .u64 (s1 : Int), .int .u64 (s2 : Int), .int .u64 (n : Int)] tOp (0, 0))) := (show _ = _ by rw [hw1]; exact heap_alloc_new w _)
  have HLD : Hid ((w.alloc (.cells #[.int .i64 kd, .int .u64 (s1 : Int), .int .u64 (s2 : Int), .int .u64 (n : Int)] tOp)).rangeAt w.heap.size 1 (sc (s1, s2))) := (show World.rangeAt _ _ _ _ by
    rw [← hw1]
    exact box_off HX1.out)
  have HLO : Hid ((w.alloc (.cells #[.int .i64 kd, .int .u64 (s1 : Int), .int .u64 (s2 : Int), .int .u64 (n : Int)] tOp)).rangeAt w.heap.size 0 [.int .i64 kd, .int .u64 (s1 : Int), .int .u64 (s2 : Int), .int .u64 (n : Int)]) := (show World.rangeAt _ _ _ _ by
    rw [← hw1]
    exact box_range HX1.out)
  have HW1 : Hid (w1 = w.alloc (.cells #[.int .i64 kd, .int .u64 (s1 : Int), .int .u64 (s2 : Int), .int .u64 (n : Int)] tOp)) := hw1
  have HAB : Hid (∀ ob, Below w.heap.size w (w.alloc ob)) := fun ob => al (Below.refl _ _) _
  have HI : Hid (IdxAt w g S P v vs) := h
  have HZ : Hid (∀ ob, IdxAt (w.alloc ob) g S P v vs) := fun ob => h.below (al (Below.refl _ _) _)
  have HT : Hid (Tid S P) := ht
  obtain ⟨p0, i0, ok0, hp0⟩ := place_ex ht.1 (s1, s2)
  have HP0 : Hid (PlaceIs P (s1, s2) p0 i0 ok0) := hp0
  have HLP : Hid (∀ q ∈ P, q.length ≤ 100) := (fun q hq => by have := ht.2 q hq; omega)
  clear hw1 h ht hp0
  go_enter Try.func7, Try.ntmps7
  by_cases h1 : kd = 1
  · subst h1
    go_wp2_with (first | (refine wpList_load_mid rfl tSt _ rfl w.heap.size 1 rfl (sc (s1, s2)) _ HLD.out Try.underlying36 rfl info_st ?_))
    refine Calls.mono (put_t (HZ.out _) HT.out ⟨by omega, hS.2⟩ hPl s1 s2 n) ?_
    rintro e w2 ⟨p, i, ok, v2, vs2, hpi, rfl, hi2, hli, hch⟩
    have HPI : Hid (PlaceIs P (s1, s2) p i ok) := hpi
    have HI2 : Hid _ := hi2
    have HLI : Hid (Lies w v v2) := (by
      rcases hli with h9 | ⟨b9, h8, h9⟩
      · exact .inl h9
      · exact .inr ⟨b9, h8, Nat.le_trans (HAB.out _).size h9⟩)
    have HCH : Hid (Chg (foot g v) w w2) := (Chg.of_below (HAB.out _)).trans hch (fun k hk => .inl hk)
    clear hpi hi2 hli hch
    go_wp2_with fail
    refine Calls.mono (bit_b _ _) ?_
    rintro e w9 ⟨rfl, hw9⟩
    subst hw9
    go_wp2
    go_ret
    exact ⟨p, i, ok, v2, vs2, _, HPI.out, rfl, OwnU.lit w9 HCH.out.size [bitN (!ok)] 1 rfl (by decide), HI2.out.below (al (Below.refl _ _) _), HLI.out, HCH.out.trans (G := fun _ => False) (Chg.of_below (al (Below.refl _ _) _)) (fun k e => e.elim)⟩
  · have g1 : (kd == 1) = false := by simpa using h1
    by_cases h2 : kd = 2
    · subst h2
      go_wp2_with (first | (refine wpList_load_mid rfl tSt _ rfl w.heap.size 1 rfl (sc (s1, s2)) _ HLD.out Try.underlying36 rfl info_st ?_))
      refine Calls.mono (remove_t (HZ.out _) HT.out ⟨by omega, hS.2⟩ hPl s1 s2) ?_
      rintro e w2 ⟨p, i, ok, nv, v2, vs2, hpi, rfl, h0, h1, hi2, hob, hch⟩
      have HPI : Hid (PlaceIs P (s1, s2) p i ok) := hpi
      have HI2 : Hid _ := hi2
      have HLI : Hid (Lies w v v2) := .inl hob
      obtain ⟨m9, hm9, hmm⟩ : ∃ m9 : Nat, nv = (m9 : Int) ∧ m9 = if ok then ((P.getD p []).map (·.n)).getD i 0 else 0 := (by
        cases ok
        · exact ⟨0, h0 rfl, rfl⟩
        · obtain ⟨h8, h9⟩ := h1 rfl
          exact ⟨_, h9, nth_n _ i h8⟩)
      subst hm9
      have HNV : Hid (m9 = if ok then ((P.getD p []).map (·.n)).getD i 0 else 0) := hmm
      clear hmm
      have HCH : Hid (Chg (foot g v) w w2) := (Chg.of_below (HAB.out _)).trans hch (fun k hk => .inl hk)
      clear hpi hi2 hob hch h0 h1
      go_wp2_with fail
      refine Calls.mono (bit_b _ _) ?_
      rintro e w9 ⟨rfl, hw9⟩
      subst hw9
      go_wp2
      go_ret
      exact ⟨p, i, ok, v2, vs2, _, HPI.out, rfl, (show OwnU _ _ _ [if ok then ((P.getD p []).map (·.n)).getD i 0 else 0, bitN ok] by rw [← HNV.out]; exact OwnU.lit w9 HCH.out.size [m9, bitN ok] 2 rfl (by decide)), HI2.out.below (al (Below.refl _ _) _), HLI.out, HCH.out.trans (G := fun _ => False) (Chg.of_below (al (Below.refl _ _) _)) (fun k e => e.elim)⟩
    · have g2 : (kd == 2) = false := by simpa using h2
      by_cases h3 : kd = 3
      · subst h3
        obtain ⟨pa, cap, hv, hcap, hnil, hrd, hpg⟩ := (show IdxAt w1 g S P v vs by rw [HW1.out]; exact HZ.out _).rd
        have HGT : Hid _ := get_t (.pointer (some ⟨g, 0, none⟩)) pa P.length cap P s1 s2 w1 hpg rfl hrd HT.out.1 hPl HLP.out
        clear hv hcap hnil hrd hpg
        go_wp2_with (first | (refine wpList_load_mid rfl tSt _ rfl w.heap.size 1 rfl (sc (s1, s2)) _ HLD.out Try.underlying36 rfl info_st ?_))
        rw [← HW1.out]
        refine Calls.mono HGT.out ?_
        rintro e w2 ⟨p, i, ok, nv, rfl, hpi, h0, h1, hb⟩
        have HPI : Hid (PlaceIs P (s1, s2) p i ok) := hpi
        have HB2 : Hid (Below w.heap.size w w2) := below_next HB1.out hb
        have HNV : Hid (nv = if ok then ((P.getD p []).map (·.n)).getD i 0 else 0) := (show _ = _ by
          cases ok
          · exact h0 rfl
          · obtain ⟨h8, h9⟩ := h1 rfl
            rw [h9]; exact nth_n _ i h8)
        clear hpi hb h0 h1 HGT
        go_wp2_with fail
        refine Calls.mono (bit_b _ _) ?_
        rintro e w9 ⟨rfl, hw9⟩
        subst hw9
        have HB3 : Hid (∀ ob, Below w.heap.size w (w9.alloc ob)) := fun ob => HB2.out.alloc HB2.out.size ob
        go_wp2
        go_ret
        exact ⟨p, i, ok, v, vs, _, HPI.out, rfl, (show OwnU _ _ _ [if ok then ((P.getD p []).map (·.n)).getD i 0 else 0, bitN ok] by rw [← HNV.out]; exact OwnU.lit w9 HB2.out.size [nv, bitN ok] 2 rfl (by decide)), HI.out.below (HB3.out _), .inl rfl, Chg.of_below (HB3.out _)⟩
      · have g3 : (kd == 3) = false := by simpa using h3
        by_cases h4 : kd = 4
        · subst h4
          obtain ⟨pa, cap, hv, hcap, hnil, hrd, hpg⟩ := (show IdxAt w1 g S P v vs by rw [HW1.out]; exact HZ.out _).rd
          have HGT : Hid _ := len_t (.pointer (some ⟨g, 0, none⟩)) pa P.length cap P w1 hpg rfl hrd hPl HLP.out
          clear hv hcap hnil hrd hpg
          obtain ⟨T0, hT0⟩ : ∃ T0, T0 = P.flatten.length := ⟨_, rfl⟩
          have hTb : T0 ≤ 439804651110400 := by have h9 := sum_le HLP.out P.length; rw [List.take_length] at h9; omega
          have HTE : Hid (T0 = P.flatten.length) := hT0
          have hw1 : IntKind.u64.wrap (T0 : Int) = (T0 : Int) := by rw [IntKind.wrap_u64]; omega
          go_wp2_with fail
          rw [← HW1.out]
          refine Calls.mono HGT.out ?_
          rintro e w9 ⟨rfl, hw9⟩
          subst hw9
          rw [← hT0]
          have HB3 : Hid (∀ ob, Below w.heap.size w (w9.alloc ob)) := fun ob => HB1.out.alloc HB1.out.size ob
          clear hT0 HGT
          go_wp2
          go_ret
          exact ⟨p0, i0, ok0, v, vs, _, HP0.out, rfl, (show OwnU _ _ _ [P.flatten.length] by rw [← HTE.out]; exact OwnU.lit w9 HB1.out.size [T0] 1 rfl (by decide)), HI.out.below (HB3.out _), .inl rfl, Chg.of_below (HB3.out _)⟩
        · have g4 : (kd == 4) = false := by simpa using h4
          by_cases h5 : kd = 5
          · subst h5
            obtain ⟨pa, cap, hv, hcap, hnil, hrd, hpg⟩ := (show IdxAt w1 g S P v vs by rw [HW1.out]; exact HZ.out _).rd
            have HGT : Hid _ := pages_t (.pointer (some ⟨g, 0, none⟩)) pa P.length cap P w1 hpg rfl hrd hPl
            clear hv hcap hnil hrd hpg
            go_wp2_with fail
            rw [← HW1.out]
            refine Calls.mono HGT.out ?_
            rintro e w2 ⟨v2, rfl, hrow, hb⟩
            obtain ⟨N, hN⟩ : ∃ N, N = P.length := ⟨_, rfl⟩
            rw [← hN] at hrow
            have HN : Hid (N = P.length) := hN
            have hNb : N ≤ 4398046511104 := by omega
            obtain ⟨a2, c2, hv2, hcl2⟩ : ∃ a c, v2 = .slice a N c ∧ ∀ j (hj : j < N), ∃ g, a = some ⟨g, 0, none⟩ ∧ w2.cell? ⟨g, j, none⟩ = some (.int .i64 ((P.getD j []).length : Int)) := (by
              have h' := hrow
              rcases hrow.2 with ⟨rfl, h0⟩ | ⟨g9, cap9, cur, rfl, hB, hg, hc, hm, r⟩
              · exact ⟨none, 0, by rw [h0], fun j hj => by omega⟩
              · refine ⟨_, cap9, rfl, fun j hj => ⟨g9, rfl, ?_⟩⟩
                rw [World.ownsRow.cellAt h' j (by omega)]
                unfold cnt
                rw [List.getElem?_map, List.getElem?_eq_getElem (by omega)]
                simp [List.getD, show j < P.length by omega])
            subst hv2
            have HCE : Hid (∀ j (hj : j < N), ∃ g, a2 = some ⟨g, 0, none⟩ ∧ w2.cell? ⟨g, j, none⟩ = some (.int .i64 ((P.getD j []).length : Int))) := hcl2
            have HB2 : Hid (Below w.heap.size w w2) := below_next HB1.out hb
            clear hrow hb hcl2 HGT hN
            go_wp2_with fail
            go_loopw [5, 13] (fun l i wr => ∃ k : Nat, k ≤ N ∧ i = .int .i64 (k : Int) ∧ OwnU wr w2.heap.size l ((P.take k).map List.length) ∧ Below w2.heap.size w2 wr) (fun _ i _ => N - (intOf i).toNat)
            case atStart => exact ⟨0, Nat.zero_le _, rfl, OwnU.nil _ _, Below.refl _ _⟩
            case round =>
              obtain ⟨k, hk, rfl, hown, hbel⟩ := hrel
              have HBEL : Hid (Below w2.heap.size w2 wr) := hbel
              have HOW : Hid (OwnU wr w2.heap.size u5 ((P.take k).map List.length)) := hown
              obtain ⟨al9, cl9, hv9, -⟩ := OwnU.val hown
              obtain ⟨T0, hT0⟩ : ∃ T0, T0 = ((P.take k).map List.length).length := ⟨_, rfl⟩
              have HT0 : Hid (((P.take k).map List.length).length ≤ 4398046511104) := (show _ ≤ _ by rw [List.length_map, List.length_take]; omega)
              rw [← hT0] at hv9
              subst hv9
              clear hown hbel hT0
              by_cases hlt : k < N
              · obtain ⟨g9, rfl, hc9⟩ := HCE.out k hlt
                have hkP : k < P.length := by have := HN.out; omega
                obtain ⟨x1, hx1⟩ : ∃ x1, x1 = (P.getD k []).length := ⟨_, rfl⟩
                have eP : P.getD k [] = P[k] := by simp [List.getD, hkP]
                rw [← hx1] at hc9
                have hxb : x1 ≤ 100 := by rw [hx1, eP]; exact HLP.out _ (List.getElem_mem hkP)
                have HTK : Hid ((P.take (k + 1)).map List.length = (P.take k).map List.length ++ [x1]) := (show _ = _ by rw [List.take_succ_eq_append_getElem hkP, List.map_append, hx1, eP]; rfl)
                have hcw : wr.cell? ⟨g9, k, none⟩ = some (.int .i64 (x1 : Int)) := (HBEL.out.cell (World.block_lt_of_cell? w2 _ hc9)).trans hc9
                have hw1 : IntKind.u64.wrap (x1 : Int) = (x1 : Int) := by rw [IntKind.wrap_u64]; omega
                have hki : (k : Int) < (N : Int) := by omega
                have hk0 : (0 : Int) ≤ (k : Int) := by omega
                clear hx1 eP hc9
                go_wp2_with (first | (at_builtin; refine wp_appN rfl _ _ rfl w2.heap.size _ ((P.take k).map List.length) [x1] (by rfl) (OwnU.below HOW.out (al (Below.refl _ _) _)) _ 1 rfl (by rfl) _ rfl (heap_alloc_new wr _) (by have := HT0.out; omega) (by have := HBEL.out.size; simp; omega) ?_; intro v6 w6 hown hg; have HOWN6 : Hid _ := hown; have HBEL6 : Hid (Below w2.heap.size w2 w6) := (HBEL.out.alloc HBEL.out.size _).grown hg (by have := HBEL.out.size; simp; omega) (fun j9 h9 => (World.ownsRow.lt HOW.out j9 h9).1); clear hown hg))
                go_roundw
                case rel => exact ⟨k + 1, by omega, by go_num, by rw [HTK.out]; exact HOWN6.out, HBEL6.out⟩
                case measure => simp [intOf]; omega
              · obtain rfl : k = N := by omega
                have hkI : ¬ ((k : Int) < (k : Int)) := by omega
                have HRES : Hid ((P.take k).map List.length = P.map List.length) := (show _ = _ by rw [List.take_of_length_le (by have := HN.out; omega)])
                have HB9 : Hid (Below w.heap.size w wr) := below_next HB2.out HBEL.out
                go_wp2
                go_ret
                cases ok0
                case false => first | exact ⟨p0, i0, .inl ⟨HP0.out, v, vs, _, rfl, (show OwnU _ _ _ (P.map List.length) by rw [← HRES.out]; exact OwnU.base HOW.out HB2.out.size), HI.out.below HB9.out, .inl rfl, Chg.of_below HB9.out⟩⟩ | exact ⟨p0, i0, false, v, vs, _, HP0.out, rfl, (show OwnU _ _ _ (P.map List.length) by rw [← HRES.out]; exact OwnU.base HOW.out HB2.out.size), HI.out.below HB9.out, .inl rfl, Chg.of_below HB9.out⟩
                case true => first | exact ⟨p0, i0, .inr ⟨HP0.out, v, vs, _, rfl, (show OwnU _ _ _ (P.map List.length) by rw [← HRES.out]; exact OwnU.base HOW.out HB2.out.size), HI.out.below HB9.out, .inl rfl, Chg.of_below HB9.out⟩⟩ | exact ⟨p0, i0, true, v, vs, _, HP0.out, rfl, (show OwnU _ _ _ (P.map List.length) by rw [← HRES.out]; exact OwnU.base HOW.out HB2.out.size), HI.out.below HB9.out, .inl rfl, Chg.of_below HB9.out⟩
          · have g5 : (kd == 5) = false := by simpa using h5
            by_cases h6 : kd = 6
            · subst h6
              obtain ⟨pa, cap, hv, hcap, hnil, hrd, hpg⟩ := (show IdxAt w1 g S P v vs by rw [HW1.out]; exact HZ.out _).rd
              have HGT : Hid _ := place_t (.pointer (some ⟨g, 0, none⟩)) pa P.length cap P (s1, s2) w1 hpg rfl hrd HT.out.1 hPl HLP.out
              clear hv hcap hnil hrd hpg
              go_wp2_with (first | (refine wpList_load_mid rfl tSt _ rfl w.heap.size 1 rfl (sc (s1, s2)) _ HLD.out Try.underlying36 rfl info_st ?_))
              rw [← HW1.out]
              refine Calls.mono HGT.out ?_
              rintro e w2 ⟨p, i, ok, rfl, hpi, hb⟩
              have HPI : Hid (PlaceIs P (s1, s2) p i ok) := hpi
              have HB2 : Hid (Below w.heap.size w w2) := below_next HB1.out hb
              have hpb : p ≤ 4398046511104 ∧ i ≤ 100 := (by
                by_cases hne : P = []
                · obtain ⟨rfl, rfl, -⟩ := hpi.nil hne; omega
                · have h9 := hpi.lt hne
                  have h8 := (hpi.cut HT.out.1 h9).1
                  have h7 := HLP.out _ (List.getElem_mem h9)
                  omega)
              have hw1 : IntKind.u64.wrap (p : Int) = (p : Int) := by rw [IntKind.wrap_u64]; omega
              have hw2 : IntKind.u64.wrap (i : Int) = (i : Int) := by rw [IntKind.wrap_u64]; omega
              clear hpi hb HGT
              go_wp2_with fail
              refine Calls.mono (bit_b _ _) ?_
              rintro e w9 ⟨rfl, hw9⟩
              subst hw9
              have HB3 : Hid (∀ ob, Below w.heap.size w (w9.alloc ob)) := fun ob => HB2.out.alloc HB2.out.size ob
              go_wp2
              go_ret
              exact ⟨p, i, ok, v, vs, _, HPI.out, rfl, OwnU.lit w9 HB2.out.size [p, i, bitN ok] 3 rfl (by decide), HI.out.below (HB3.out _), .inl rfl, Chg.of_below (HB3.out _)⟩
            · have g6 : (kd == 6) = false := by simpa using h6
              by_cases h7 : kd = 7
              · subst h7
                go_wp2_with (first | (refine wpList_load_mid rfl tSt _ rfl w.heap.size 1 rfl (sc (s1, s2)) _ HLD.out Try.underlying36 rfl info_st ?_))
                refine Calls.mono (least_any (HZ.out _) HT.out hS.2 hPl s1 s2) ?_
                rintro e w2 ⟨⟨u1, u2⟩, un, uk, rfl, hfi, hb⟩
                have HB2 : Hid (Below w.heap.size w w2) := below_next (HAB.out _) hb
                have HFI : Hid (firstN (upL P (s1, s2)) = [bitN uk, u1, u2, un]) := (show _ = _ by
                  unfold firstN
                  rcases hfi with ⟨e1, e2, e3, e4⟩ | ⟨y, e1, e2, e3, e4⟩
                  · cases e2; rw [e1, e3, e4]; rfl
                  · obtain ⟨⟨y1, y2⟩, yn⟩ := y; rw [e1]; subst e3 e4; cases e2; rfl)
                clear hfi hb
                obtain ⟨w3, hw3⟩ : ∃ Y : World, Y = w2.alloc (.cells #[.int .u64 (u1 : Int), .int .u64 (u2 : Int)] tSt) := ⟨_, rfl⟩
                have HB3 : Hid (Below w.heap.size w w3) := (show Below _ _ _ by rw [hw3]; exact HB2.out.alloc HB2.out.size _)
                have HX3 : Hid (w3.heap[w2.heap.size]? = some (.cells #[.int .u64 (u1 : Int), .int .u64 (u2 : Int)] tSt (0, 0))) := (show _ = _ by rw [hw3]; exact heap_alloc_new w2 _)
                have hl3 : ∀ u, Below w3.heap.size w3 u → (Instr.loadAt tSt (.pointer (some ⟨w2.heap.size, 0, none⟩))).run Try.prog u = .ok (sv (u1, u2)) u := fun u hu => load_st u _ _ (u1, u2) (rangeAt_below (box_range HX3.out) hu)
                go_upto_region 27 with fail
                rw [← hw3]
                clear hw3
                refine wp_region_held_drew (S := (fun u => Below w3.heap.size w3 u)) (by kernel_rfl) (by first | exact (Below.refl _ _).drew | assumption | exact al (Below.refl _ _).drew _) (fun hHeld => ?_)
                refine take_at (i := 0) 115 (v := ?_) rfl rfl (by kernel_rfl) (by kernel_rfl) (by kernel_rfl) (fun _ _ _ h => h) (by rfl) ?_ hHeld ?_
                rotate_left
                · (intro w hSw; (try dsimp only at hSw); go_simp; try with_reducible rfl)
                simp only [Act.put, List.setIfInBounds_toArray, List.set_cons_zero, List.set_cons_succ]
                refine take_at (i := 3) 118 (v := sv (u1, u2)) rfl rfl (by kernel_rfl) (by kernel_rfl) (by kernel_rfl) (fun _ _ _ h => h) (by rfl) ?_ hHeld ?_
                · (intro w hSw; refine exec_load (by rfl) ?_; exact hl3 w hSw)
                simp only [Act.put, List.setIfInBounds_toArray, List.set_cons_zero, List.set_cons_succ]
                refine take_at (i := 4) 119 (v := ?_) rfl rfl (by kernel_rfl) (by kernel_rfl) (by kernel_rfl) (fun _ _ _ h => h) (by rfl) ?_ hHeld ?_
                rotate_left
                · (intro w hSw; (try dsimp only at hSw); go_simp; try with_reducible rfl)
                simp only [Act.put, List.setIfInBounds_toArray, List.set_cons_zero, List.set_cons_succ]
                refine run_at (i := 1) rfl (by kernel_rfl) (by rfl) (fun K hK => ?_)
                simp only [List.getElem_toArray, List.getElem_cons_zero, List.getElem_cons_succ]
                go_simp
                first | (go_at_call 18; refine Calls.mono (bit_b _ _) ?_; rintro e w9 ⟨rfl, hw9⟩; subst hw9) | (go_at_call 24; refine Calls.mono (two_t (B := w3.heap.size) _ [bitN uk] u1 u2 un _ (OwnU.lit w3.drew (Nat.le_refl _) [bitN uk] 1 rfl (by decide)) (al (Below.refl _ _).drew _).size (by simp)) ?_; rintro e w4 ⟨v4, rfl, hu4, hb⟩; have hb4 : Below w3.heap.size w3 w4 := (al (Below.refl w3.heap.size w3).drew _).trans hb; have HU4 : Hid (OwnU w4 w3.heap.size v4 [bitN uk, u1, u2, un]) := hu4; obtain ⟨a4, c4, rfl, -⟩ := OwnU.val hu4; clear hb hu4)
                go_wp2_with fail
                refine hK.out _ _ (by first | exact (Below.refl _ _).drew | assumption | exact al (Below.refl _ _).drew _) ?_
                clear hK K
                intro hHeld2
                clear hHeld
                have hHeld := hHeld2
                clear hHeld2
                try simp only [Act.put, List.setIfInBounds_toArray, List.set_cons_zero, List.set_cons_succ]
                refine run_at (i := 2) rfl (by kernel_rfl) (by rfl) (fun K hK => ?_)
                simp only [List.getElem_toArray, List.getElem_cons_zero, List.getElem_cons_succ]
                go_simp
                go_wp2_with fail
                refine hK.out _ _ (by first | exact (Below.refl _ _).drew | assumption | exact al (Below.refl _ _).drew _) ?_
                clear hK K
                intro hHeld2
                clear hHeld
                have hHeld := hHeld2
                clear hHeld2
                try simp only [Act.put, List.setIfInBounds_toArray, List.set_cons_zero, List.set_cons_succ]
                refine run_at (i := 5) rfl (by kernel_rfl) (by rfl) (fun K hK => ?_)
                simp only [List.getElem_toArray, List.getElem_cons_zero, List.getElem_cons_succ]
                go_simp
                first | (go_at_call 18; refine Calls.mono (bit_b _ _) ?_; rintro e w9 ⟨rfl, hw9⟩; subst hw9) | (go_at_call 24; refine Calls.mono (two_t (B := w3.heap.size) _ [bitN uk] u1 u2 un _ (OwnU.lit w3.drew (Nat.le_refl _) [bitN uk] 1 rfl (by decide)) (al (Below.refl _ _).drew _).size (by simp)) ?_; rintro e w4 ⟨v4, rfl, hu4, hb⟩; have hb4 : Below w3.heap.size w3 w4 := (al (Below.refl w3.heap.size w3).drew _).trans hb; have HU4 : Hid (OwnU w4 w3.heap.size v4 [bitN uk, u1, u2, un]) := hu4; obtain ⟨a4, c4, rfl, -⟩ := OwnU.val hu4; clear hb hu4)
                go_wp2_with fail
                refine hK.out _ _ (by first | exact (Below.refl _ _).drew | assumption | exact al (Below.refl _ _).drew _) ?_
                clear hK K
                intro hHeld2
                clear hHeld
                have hHeld := hHeld2
                clear hHeld2
                try simp only [Act.put, List.setIfInBounds_toArray, List.set_cons_zero, List.set_cons_succ]
                refine take_at (i := 6) 4 (v := ?_) rfl rfl (by kernel_rfl) (by kernel_rfl) (by kernel_rfl) (fun _ _ _ h => h) (by rfl) ?_ hHeld ?_
                rotate_left
                · (intro w hSw; (try dsimp only at hSw); go_simp; try with_reducible rfl)
                simp only [Act.put, List.setIfInBounds_toArray, List.set_cons_zero, List.set_cons_succ]
                refine wpAnyH_done (by kernel_rfl) ?_ _
                have HB4 : Hid (Below w.heap.size w w4) := below_next HB3.out hb4
                clear hb4 hl3
                go_wp2
                go_ret
                exact ⟨p0, i0, ok0, v, vs, _, HP0.out, rfl, (show OwnU _ _ _ (firstN (upL P (s1, s2))) by rw [HFI.out]; exact OwnU.base HU4.out HB3.out.size), HI.out.below HB4.out, .inl rfl, Chg.of_below HB4.out⟩
              · have g7 : (kd == 7) = false := by simpa using h7
                by_cases h8 : kd = 8
                · subst h8
                  go_wp2_with (first | (refine wpList_load_mid rfl tSt _ rfl w.heap.size 1 rfl (sc (s1, s2)) _ HLD.out Try.underlying36 rfl info_st ?_))
                  refine Calls.mono (greatest_any (HZ.out _) HT.out hS.2 hPl s1 s2) ?_
                  rintro e w2 ⟨⟨u1, u2⟩, un, uk, rfl, hfi, hb⟩
                  have HB2 : Hid (Below w.heap.size w w2) := below_next (HAB.out _) hb
                  have HFI : Hid (firstN (downL P (s1, s2)) = [bitN uk, u1, u2, un]) := (show _ = _ by
                    unfold firstN
                    rcases hfi with ⟨e1, e2, e3, e4⟩ | ⟨y, e1, e2, e3, e4⟩
                    · cases e2; rw [e1, e3, e4]; rfl
                    · obtain ⟨⟨y1, y2⟩, yn⟩ := y; rw [e1]; subst e3 e4; cases e2; rfl)
                  clear hfi hb
                  obtain ⟨w3, hw3⟩ : ∃ Y : World, Y = w2.alloc (.cells #[.int .u64 (u1 : Int), .int .u64 (u2 : Int)] tSt) := ⟨_, rfl⟩
                  have HB3 : Hid (Below w.heap.size w w3) := (show Below _ _ _ by rw [hw3]; exact HB2.out.alloc HB2.out.size _)
                  have HX3 : Hid (w3.heap[w2.heap.size]? = some (.cells #[.int .u64 (u1 : Int), .int .u64 (u2 : Int)] tSt (0, 0))) := (show _ = _ by rw [hw3]; exact heap_alloc_new w2 _)
                  have hl3 : ∀ u, Below w3.heap.size w3 u → (Instr.loadAt tSt (.pointer (some ⟨w2.heap.size, 0, none⟩))).run Try.prog u = .ok (sv (u1, u2)) u := fun u hu => load_st u _ _ (u1, u2) (rangeAt_below (box_range HX3.out) hu)
                  go_upto_region 30 with fail
                  rw [← hw3]
                  clear hw3
                  refine wp_region_held_drew (S := (fun u => Below w3.heap.size w3 u)) (by kernel_rfl) (by first | exact (Below.refl _ _).drew | assumption | exact al (Below.refl _ _).drew _) (fun hHeld => ?_)
                  refine take_at (i := 0) 131 (v := ?_) rfl rfl (by kernel_rfl) (by kernel_rfl) (by kernel_rfl) (fun _ _ _ h => h) (by rfl) ?_ hHeld ?_
                  rotate_left
                  · (intro w hSw; (try dsimp only at hSw); go_simp; try with_reducible rfl)
                  simp only [Act.put, List.setIfInBounds_toArray, List.set_cons_zero, List.set_cons_succ]
                  refine take_at (i := 3) 134 (v := sv (u1, u2)) rfl rfl (by kernel_rfl) (by kernel_rfl) (by kernel_rfl) (fun _ _ _ h => h) (by rfl) ?_ hHeld ?_
                  · (intro w hSw; refine exec_load (by rfl) ?_; exact hl3 w hSw)
                  simp only [Act.put, List.setIfInBounds_toArray, List.set_cons_zero, List.set_cons_succ]
                  refine take_at (i := 4) 135 (v := ?_) rfl rfl (by kernel_rfl) (by kernel_rfl) (by kernel_rfl) (fun _ _ _ h => h) (by rfl) ?_ hHeld ?_
                  rotate_left
                  · (intro w hSw; (try dsimp only at hSw); go_simp; try with_reducible rfl)
                  simp only [Act.put, List.setIfInBounds_toArray, List.set_cons_zero, List.set_cons_succ]
                  refine run_at (i := 1) rfl (by kernel_rfl) (by rfl) (fun K hK => ?_)
                  simp only [List.getElem_toArray, List.getElem_cons_zero, List.getElem_cons_succ]
                  go_simp
                  first | (go_at_call 18; refine Calls.mono (bit_b _ _) ?_; rintro e w9 ⟨rfl, hw9⟩; subst hw9) | (go_at_call 24; refine Calls.mono (two_t (B := w3.heap.size) _ [bitN uk] u1 u2 un _ (OwnU.lit w3.drew (Nat.le_refl _) [bitN uk] 1 rfl (by decide)) (al (Below.refl _ _).drew _).size (by simp)) ?_; rintro e w4 ⟨v4, rfl, hu4, hb⟩; have hb4 : Below w3.heap.size w3 w4 := (al (Below.refl w3.heap.size w3).drew _).trans hb; have HU4 : Hid (OwnU w4 w3.heap.size v4 [bitN uk, u1, u2, un]) := hu4; obtain ⟨a4, c4, rfl, -⟩ := OwnU.val hu4; clear hb hu4)
                  go_wp2_with fail
                  refine hK.out _ _ (by first | exact (Below.refl _ _).drew | assumption | exact al (Below.refl _ _).drew _) ?_
                  clear hK K
                  intro hHeld2
                  clear hHeld
                  have hHeld := hHeld2
                  clear hHeld2
                  try simp only [Act.put, List.setIfInBounds_toArray, List.set_cons_zero, List.set_cons_succ]
                  refine run_at (i := 2) rfl (by kernel_rfl) (by rfl) (fun K hK => ?_)
                  simp only [List.getElem_toArray, List.getElem_cons_zero, List.getElem_cons_succ]
                  go_simp
                  go_wp2_with fail
                  refine hK.out _ _ (by first | exact (Below.refl _ _).drew | assumption | exact al (Below.refl _ _).drew _) ?_
                  clear hK K
                  intro hHeld2
                  clear hHeld
                  have hHeld := hHeld2
                  clear hHeld2
                  try simp only [Act.put, List.setIfInBounds_toArray, List.set_cons_zero, List.set_cons_succ]
                  refine run_at (i := 5) rfl (by kernel_rfl) (by rfl) (fun K hK => ?_)
                  simp only [List.getElem_toArray, List.getElem_cons_zero, List.getElem_cons_succ]
                  go_simp
                  first | (go_at_call 18; refine Calls.mono (bit_b _ _) ?_; rintro e w9 ⟨rfl, hw9⟩; subst hw9) | (go_at_call 24; refine Calls.mono (two_t (B := w3.heap.size) _ [bitN uk] u1 u2 un _ (OwnU.lit w3.drew (Nat.le_refl _) [bitN uk] 1 rfl (by decide)) (al (Below.refl _ _).drew _).size (by simp)) ?_; rintro e w4 ⟨v4, rfl, hu4, hb⟩; have hb4 : Below w3.heap.size w3 w4 := (al (Below.refl w3.heap.size w3).drew _).trans hb; have HU4 : Hid (OwnU w4 w3.heap.size v4 [bitN uk, u1, u2, un]) := hu4; obtain ⟨a4, c4, rfl, -⟩ := OwnU.val hu4; clear hb hu4)
                  go_wp2_with fail
                  refine hK.out _ _ (by first | exact (Below.refl _ _).drew | assumption | exact al (Below.refl _ _).drew _) ?_
                  clear hK K
                  intro hHeld2
                  clear hHeld
                  have hHeld := hHeld2
                  clear hHeld2
                  try simp only [Act.put, List.setIfInBounds_toArray, List.set_cons_zero, List.set_cons_succ]
                  refine take_at (i := 6) 4 (v := ?_) rfl rfl (by kernel_rfl) (by kernel_rfl) (by kernel_rfl) (fun _ _ _ h => h) (by rfl) ?_ hHeld ?_
                  rotate_left
                  · (intro w hSw; (try dsimp only at hSw); go_simp; try with_reducible rfl)
                  simp only [Act.put, List.setIfInBounds_toArray, List.set_cons_zero, List.set_cons_succ]
                  refine wpAnyH_done (by kernel_rfl) ?_ _
                  have HB4 : Hid (Below w.heap.size w w4) := below_next HB3.out hb4
                  clear hb4 hl3
                  go_wp2
                  go_ret
                  exact ⟨p0, i0, ok0, v, vs, _, HP0.out, rfl, (show OwnU _ _ _ (firstN (downL P (s1, s2))) by rw [HFI.out]; exact OwnU.base HU4.out HB3.out.size), HI.out.below HB4.out, .inl rfl, Chg.of_below HB4.out⟩
                · have g8 : (kd == 8) = false := by simpa using h8
                  by_cases h9 : kd = 9
                  · subst h9
                    go_wp2_with (first | (refine wpList_load_mid rfl tOp _ rfl w.heap.size 0 rfl [.int .i64 9, .int .u64 (s1 : Int), .int .u64 (s2 : Int), .int .u64 (n : Int)] _ HLO.out Try.underlying38 rfl info_op5 ?_))
                    refine Calls.mono (along_t (HZ.out _) HT.out hS.2 hPl 9 s1 s2 n) ?_
                    rintro e w2 ⟨vl, rfl, hul, hb⟩
                    have HB2 : Hid (Below w.heap.size w w2) := below_next (HAB.out _) hb
                    have HUL : Hid _ := OwnU.base hul (HAB.out _).size
                    obtain ⟨al9, cl9, hvl, -⟩ := OwnU.val hul
                    obtain ⟨T0, hT0⟩ : ∃ T0, T0 = (nmE ((if (9 : Int) = 10 then downL P (s1, s2) else upL P (s1, s2)).take (n % 64))).length := ⟨_, rfl⟩
                    rw [← hT0] at hvl
                    subst hvl
                    clear hb hul hT0
                    go_wp2
                    go_ret
                    exact ⟨p0, i0, ok0, v, vs, _, HP0.out, rfl, HUL.out, HI.out.below HB2.out, .inl rfl, Chg.of_below HB2.out⟩
                  · have g9 : (kd == 9) = false := by simpa using h9
                    by_cases h10 : kd = 10
                    · subst h10
                      go_wp2_with (first | (refine wpList_load_mid rfl tOp _ rfl w.heap.size 0 rfl [.int .i64 10, .int .u64 (s1 : Int), .int .u64 (s2 : Int), .int .u64 (n : Int)] _ HLO.out Try.underlying38 rfl info_op5 ?_))
                      refine Calls.mono (along_t (HZ.out _) HT.out hS.2 hPl 10 s1 s2 n) ?_
                      rintro e w2 ⟨vl, rfl, hul, hb⟩
                      have HB2 : Hid (Below w.heap.size w w2) := below_next (HAB.out _) hb
                      have HUL : Hid _ := OwnU.base hul (HAB.out _).size
                      obtain ⟨al9, cl9, hvl, -⟩ := OwnU.val hul
                      obtain ⟨T0, hT0⟩ : ∃ T0, T0 = (nmE ((if (10 : Int) = 10 then downL P (s1, s2) else upL P (s1, s2)).take (n % 64))).length := ⟨_, rfl⟩
                      rw [← hT0] at hvl
                      subst hvl
                      clear hb hul hT0
                      go_wp2
                      go_ret
                      exact ⟨p0, i0, ok0, v, vs, _, HP0.out, rfl, HUL.out, HI.out.below HB2.out, .inl rfl, Chg.of_below HB2.out⟩
                    · have g10 : (kd == 10) = false := by simpa using h10
                      have HNL : Hid (ansL P kd (s1, s2) n p0 i0 ok0 = [] ∧ nextP S P kd (s1, s2) n p0 i0 ok0 = P) := (show _ ∧ _ by
                        unfold ansL nextP
                        simp only [if_neg h1, if_neg h2, if_neg h3, if_neg h4, if_neg h5, if_neg h6, if_neg h7, if_neg h8, if_neg h9, if_neg h10, and_self])
                      go_wp2
                      go_ret
                      exact ⟨p0, i0, ok0, v, vs, _, HP0.out, rfl, by rw [HNL.out.1]; exact OwnU.nil _ _, by rw [HNL.out.2]; exact HI.out.below (HAB.out _), .inl rfl, Chg.of_below (HAB.out _)⟩
end
end Go.Proofs.Ytibolgpaolnheac
