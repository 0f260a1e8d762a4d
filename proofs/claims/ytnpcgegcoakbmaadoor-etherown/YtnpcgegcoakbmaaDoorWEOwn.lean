import Derived.Test.YtnpcgegcoakbmaaDoorOE2
namespace Go.Proofs.YtnpcgegcoakbmaaDoor
set_option linter.unusedVariables false
set_option linter.unusedSimpArgs false
open Go.RowKit
theorem rd_of_own {w : World} {B : Nat} {ao : Option Addr} {n cap : Nat} {xs : List UInt8} (h : Own w B (.slice ao n cap) xs) : Rd w ao xs := by
  obtain ⟨a, c, hv, -, -, -, hr, -⟩ := h.val
  simp only [Value.slice.injEq] at hv
  rw [hv.1]
  exact hr
def D0 (x : List UInt8) : Dgm := ⟨x, false⟩
def mkB (i : Nat) : UInt8 := UInt8.ofNat (i + 1)
theorem put_ok {R : Nat} {L : List Dgm} {x : List UInt8} (hx : x.length ≤ 2048) (hL : ¬ L.length = R) : putE R L x = 0 ∧ putL R L x = L ++ [D0 x] := by
  unfold putE putL
  rw [if_neg (by omega), if_neg hL, if_neg (by omega), if_neg hL]
  exact ⟨rfl, rfl⟩
theorem dbl0_ok {R : Nat} {L : List Dgm} {x : List UInt8} (hL : ¬ (D0 x :: L).length = R) : dblE R (D0 x :: L) 0 = 0 ∧ dblL R (D0 x :: L) 0 = D0 x :: (L ++ [D0 x]) := by
  unfold dblE dblL
  rw [if_pos ⟨by omega, by rw [List.length_cons]; omega⟩, if_neg hL, if_pos ⟨by omega, by rw [List.length_cons]; omega⟩, if_neg hL]
  exact ⟨rfl, rfl⟩
def L4 (a b : List UInt8) : List Dgm := [D0 a, D0 b, D0 a, D0 a]
def L3 (a b : List UInt8) : List Dgm := [D0 a, D0 b, D0 a]
def T8 (a b : List UInt8) : List (List UInt8) := [a, b, a, a, a, b, a, a]
def T9 (a b : List UInt8) : List (List UInt8) := [a, b, a, a, a, b, a, a, a]
theorem look4 (a b : List UInt8) (k : Nat) (hk : k < 8) (r : Nat) (hr : r = k % 4) : plE (L4 a b) (r : Int) = 0 ∧ (T8 a b)[k]? = some (lookX (L4 a b) (r : Int)) := by
  subst hr
  match k, hk with
  | 0, _ => exact ⟨rfl, rfl⟩
  | 1, _ => exact ⟨rfl, rfl⟩
  | 2, _ => exact ⟨rfl, rfl⟩
  | 3, _ => exact ⟨rfl, rfl⟩
  | 4, _ => exact ⟨rfl, rfl⟩
  | 5, _ => exact ⟨rfl, rfl⟩
  | 6, _ => exact ⟨rfl, rfl⟩
  | 7, _ => exact ⟨rfl, rfl⟩
theorem take_snoc' {α : Type} (T : List α) (k : Nat) (t : α) (h : T[k]? = some t) : T.take k ++ [t] = T.take (k + 1) := by
  obtain ⟨hk, he⟩ := List.getElem?_eq_some_iff.1 h
  rw [List.take_succ_eq_append_getElem hk, he]
abbrev sv (t : List UInt8) : Value := .string ⟨t.toArray⟩
/-- the strings that are wanted -/
structure WantAt (w : World) (g : Nat) (a b : List UInt8) : Prop where
  h : w.heap[g]? = some (.cells ((T9 a b).map sv).toArray 9 (0, 0))
theorem WantAt.cell {w : World} {g : Nat} {a b : List UInt8} (h : WantAt w g a b) {k : Nat} {t : List UInt8} (ht : (T9 a b)[k]? = some t) : w.cell? ⟨g, k, none⟩ = some (sv t) := by
  rw [cell_of_row _ _ _ _ _ _ h.h, ← Array.getElem?_toList, List.toList_toArray, List.getElem?_map, ht]
  rfl
theorem WantAt.below {w w' : World} {g : Nat} {a b : List UInt8} (h : WantAt w g a b) (hb : Below w.heap.size w w') : WantAt w' g a b := ⟨(hb.block g (Array.getElem?_eq_some_iff.1 h.h).1).trans h.h⟩
theorem WantAt.fr {S : Sd} {B : Nat} {w w' : World} {g : Nat} {a b : List UInt8} (h : WantAt w g a b) (hf : Fr S B w w') (h1 : (9 : TypeId) ≠ S.tW) (h2 : (9 : TypeId) ≠ S.K.t) : WantAt w' g a b := ⟨(hf.ty _ _ _ _ h.h h1 h2).trans h.h⟩
theorem WantAt.row {w w' : World} {B g : Nat} {vl : Value} {V : List Dc} {a b : List UInt8} (h : WantAt w g a b) (hr : OwnG KL w B vl V) (hg : w.grownBy w' vl.ownBlock) : WantAt w' g a b :=
  ⟨(hg.block g (Array.getElem?_eq_some_iff.1 h.h).1 (fun e => by obtain ⟨cur, h1⟩ := hr.at_ e.symm; exact absurd (ty_of h.h h1) (by decide))).trans h.h⟩
theorem Ow.fr {w0 w w' : World} {p : Nat} {vl : Value} {V : List Dc} {T : List (List UInt8)} {L L' : List Dgm} (h : Ow w0 w p vl V T L) (hf : Fr SP w0.heap.size w w') (hon : On SP w0.heap.size (XV V) w' p 6 L') : Ow w0 w' p vl V T L' :=
  ⟨h.row.kept (fun b e => by obtain ⟨cur, h1⟩ := h.row.at_ e; exact hf.ty _ _ _ _ h1 (by decide) (by decide)), h.fml.kept (fun b hx => by obtain ⟨C, h1⟩ := h.fml.ty hx; exact hf.ty _ _ _ _ h1 (by decide) (by decide)), hon, h.bel.trans hf.bel⟩
theorem Ow.cellk {w0 w : World} {p : Nat} {vl : Value} {V : List Dc} {T : List (List UInt8)} {L : List Dgm} (h : Ow w0 w p vl V T L) {k : Nat} {d : Dc} (hd : V[k]? = some d) : ∃ g c, vl = .slice (some ⟨g, 0, none⟩) V.length c ∧ w.cell? ⟨g, k, none⟩ = some (.slice d.a d.n d.c) := by
  have hk : k < V.length := (List.getElem?_eq_some_iff.1 hd).1
  obtain ⟨g, c, hv, -⟩ := h.row.one (by omega)
  have ho := h.row
  rw [hv] at ho
  have h1 := ho.cell rfl k 0 hk (by decide)
  have h2 : V[k] = d := Option.some.inj ((List.getElem?_eq_getElem hk).symm.trans hd)
  rw [h2] at h1
  refine ⟨g, c, hv, ?_⟩
  have h3 : k * KL.k + 0 = k := by show k * 1 + 0 = k; omega
  rw [h3] at h1
  exact h1
set_option maxRecDepth 20000 in
set_option maxHeartbeats 12800000 in
theorem etherOwn_walk (aa : Option Addr) (ca : Nat) (A : List UInt8) (ab : Option Addr) (cb : Nat) (Bb : List UInt8) (w : World) (hra : Rd w aa A) (hla : A.length ≤ ca) (hca : ca ≤ 140737488351232) (hna : aa = none → ca = 0) (hrb : Rd w ab Bb) (hlb : Bb.length ≤ cb) (hcb : cb ≤ 140737488351232) (hnb : ab = none → cb = 0) (htz : TabZ w) :
    Calls Tryd.prog 4 #[.slice aa A.length ca, .slice ab Bb.length cb] w fun e w' => e = .returned (.bool true) ∧ Below w.heap.size w w' := by
  have HRA : Hid (∀ u, Below w.heap.size w u → Rd u aa A) := fun u hu => Rd.below hra hu
  have HRB : Hid (∀ u, Below w.heap.size w u → Rd u ab Bb) := fun u hu => Rd.below hrb hu
  have HNA : Hid _ := hna
  have HNB : Hid _ := hnb
  have HTZ : Hid (∀ u, Below w.heap.size w u → TabZ u) := fun u hu => htz.below hu
  clear hra hrb hna hnb htz
  by_cases hA : 2048 < A.length
  · have hAI : (2048 : Int) < (A.length : Int) := by omega
    go_enter Tryd.func4, Tryd.ntmps4
    go_wp2
    go_ret
    exact ⟨rfl, Below.refl _ _⟩
  have hAI : ¬ (2048 : Int) < (A.length : Int) := by omega
  by_cases hBb : 2048 < Bb.length
  · have hBI : (2048 : Int) < (Bb.length : Int) := by omega
    go_enter Tryd.func4, Tryd.ntmps4
    go_wp2
    go_ret
    exact ⟨rfl, Below.refl _ _⟩
  have hBI : ¬ (2048 : Int) < (Bb.length : Int) := by omega
  have HN : Hid (Calls Tryd.prog 14 #[.int .i64 6] w fun e w' => e = .returned (.tuple #[.pointer (some ⟨w.heap.size, 0, none⟩), .int .i64 0]) ∧ Wy SP w' w.heap.size 6 (.slice none 0 0) [] [] ∧ Below w.heap.size w w') := new_t (w := w) 6 (by omega) (by omega)
  go_enter Tryd.func4, Tryd.ntmps4
  go_wp2_with fail
  refine Calls.mono HN.out ?_
  rintro e w1 ⟨rfl, h1, hb1⟩
  have HO1 : Hid (On SP w.heap.size X0 w1 w.heap.size 6 []) := ⟨_, _, h1, fun b hb => ⟨(by
    rcases hb with hb | hb | ⟨e, he, -⟩
    · omega
    · cases hb
    · cases he), id⟩⟩
  have HB1 : Hid _ := hb1
  clear h1 hb1 HN
  go_wp2_with fail
  refine Calls.mono (bytes_any aa ca A w1 (HRA.out _ HB1.out) (by omega)) ?_
  rintro e w2 ⟨g, rfl, hgB, hown2, hb2⟩
  have HO2 : Hid (On SP w.heap.size (fun b => b = g) w2 w.heap.size 6 []) := HO1.out.excl hb2 _ (fun b e => .inr (e ▸ hgB))
  have HB2 : Hid _ := HB1.out.trans (hb2.mono HB1.out.size)
  have hgl2 : g < w2.heap.size := (World.ownsRow.lt hown2 g rfl).2
  have HG2 : Hid _ := hown2
  have HgB : Hid (w.heap.size ≤ g) := Nat.le_trans HB1.out.size hgB
  clear hown2 hb2 hgB HO1
  go_wp2_with fail
  have hrd2 : Rd w2 (some ⟨g, 0, none⟩) A := by
    obtain ⟨a, c, hv, -, -, -, hrd, -⟩ := Own.val HG2.out
    simp only [Value.slice.injEq] at hv
    have h9 := Rd.take hrd A.length
    rw [List.take_left' rfl] at h9
    rw [hv.1]
    exact h9
  refine Calls.mono (oPut HO2.out (fun b e => by subst e; exact hgl2) HB2.out.size (some ⟨g, 0, none⟩) _ _ A rfl hrd2 (fun h => by cases h) (by omega)) ?_
  rintro e w3 ⟨rfl, hP3, hf3⟩
  obtain ⟨e1, e2⟩ := put_ok (R := 6) (L := []) (x := A) (by omega) (by decide)
  rw [e2] at hP3
  rw [e1]
  have HO3 : Hid _ := hP3
  have HB3 : Hid _ := HB2.out.trans hf3.bel
  have hgl3 : g < w3.heap.size := Nat.lt_of_lt_of_le hgl2 hf3.bel.size
  have HG3 : Hid _ := hf3.own HG2.out
  clear hP3 hf3 e1 e2 hrd2 HO2
  go_wp2_with fail
  refine Calls.mono (bytes_any ab cb Bb w3 (HRB.out _ HB3.out) (by omega)) ?_
  rintro e w4 ⟨g2, rfl, hgB2, hown4, hb4⟩
  have HO4 : Hid _ := HO3.out.below hb4
  have HB4 : Hid _ := HB3.out.trans (hb4.mono HB3.out.size)
  have hgl4 : g < w4.heap.size := Nat.lt_of_lt_of_le hgl3 hb4.size
  have HG4 : Hid _ := Own.below HG3.out hb4
  have HGb4 : Hid _ := hown4
  clear hown4 hb4 hgB2 HO3
  go_wp2_with fail
  have hrd4 : Rd w4 (some ⟨g2, 0, none⟩) Bb := by
    obtain ⟨a, c, hv, -, -, -, hrd, -⟩ := Own.val HGb4.out
    simp only [Value.slice.injEq] at hv
    have h9 := Rd.take hrd Bb.length
    rw [List.take_left' rfl] at h9
    rw [hv.1]
    exact h9
  refine Calls.mono (oPut HO4.out (fun b e => by subst e; exact hgl4) HB4.out.size (some ⟨g2, 0, none⟩) _ _ Bb rfl hrd4 (fun h => by cases h) (by omega)) ?_
  rintro e w5 ⟨rfl, hP5, hf5⟩
  obtain ⟨e1, e2⟩ := put_ok (R := 6) (L := [] ++ [D0 A]) (x := Bb) (by omega) (by simp)
  rw [e2] at hP5
  rw [e1]
  have HO5 : Hid (On SP w.heap.size (fun b => b = g) w5 w.heap.size 6 (D0 A :: [D0 Bb])) := hP5
  have HB5 : Hid _ := HB4.out.trans hf5.bel
  have hgl5 : g < w5.heap.size := Nat.lt_of_lt_of_le hgl4 hf5.bel.size
  have HG5 : Hid _ := hf5.own HG4.out
  clear hP5 hf5 e1 e2 hrd4 HO4 HGb4
  go_wp2_with fail
  refine Calls.mono (oDouble HO5.out (fun b e => by subst e; exact hgl5) HB5.out.size 0) ?_
  rintro e w6 ⟨rfl, hP6, hf6⟩
  obtain ⟨e1, e2⟩ := dbl0_ok (R := 6) (L := [D0 Bb]) (x := A) (by simp)
  rw [e2] at hP6
  rw [e1]
  have HO6 : Hid _ := hP6
  have HB6 : Hid _ := HB5.out.trans hf6.bel
  have hgl6 : g < w6.heap.size := Nat.lt_of_lt_of_le hgl5 hf6.bel.size
  have HG6 : Hid _ := hf6.own HG5.out
  clear hP6 hf6 e1 e2 HO5
  go_wp2_with fail
  refine Calls.mono (oDouble HO6.out (fun b e => by subst e; exact hgl6) HB6.out.size 0) ?_
  rintro e w7 ⟨rfl, hP7, hf7⟩
  obtain ⟨e1, e2⟩ := dbl0_ok (R := 6) (L := [D0 Bb] ++ [D0 A]) (x := A) (by simp)
  rw [e2] at hP7
  rw [e1]
  have HO7 : Hid (On SP w.heap.size (fun b => b = g) w7 w.heap.size 6 (L4 A Bb)) := hP7
  have HB7 : Hid _ := HB6.out.trans hf7.bel
  have hgl7 : g < w7.heap.size := Nat.lt_of_lt_of_le hgl6 hf7.bel.size
  have HG7 : Hid _ := hf7.own HG6.out
  clear hP7 hf7 e1 e2 HO6 HG2 HG3 HG4 HG5 HG6 HB1 HB2 HB3 HB4 HB5 HB6 hgl2 hgl3 hgl4 hgl5 hgl6
  obtain ⟨N, hN⟩ : ∃ N, N = A.length + 4 := ⟨_, rfl⟩
  have HN4 : Hid _ := hN
  rw [← hN] at HG7 ⊢
  have hxN : A.length ≤ N := by omega
  clear hN
  go_wp2
  go_loopw [8] (fun j wr => ∃ (k : Nat) (ys : List UInt8), k ≤ A.length ∧ j = .int .i64 k ∧ Hid (ys.length = N) ∧ Own wr w1.heap.size (.slice (some ⟨g, 0, none⟩) N N) ys ∧ w7.grownBy wr (some g)) (fun j _ => A.length - (intOf j).toNat)
  case atStart => exact ⟨0, _, Nat.zero_le _, rfl, by unfold Hid; rw [HN4.out]; simp [m4], HG7.out, World.grownBy.refl _ _⟩
  case round =>
    obtain ⟨k, ys, hk, rfl, HY, hok, hgk⟩ := hrel
    by_cases hlt : k < A.length
    · focus
        have hok' := hok
        rw [← HY.out] at hok'
        have hky : k < ys.length := by rw [HY.out]; omega
        have hcell : wr.cell? ⟨g, k, none⟩ = some (.int .u8 (ys[k].toNat : Int)) := by
          rw [World.ownsRow.cellAt hok' k (by omega), bv_get _ k hky]
        have hfz := World.ownsRow.frozenAt hok' k
        have hst := own_set hok' k (ys[k] ^^^ 85) (bits .xor .u8 (ys[k].toNat : Int) 85) (by rw [show (85 : Int) = (((85 : UInt8).toNat : Nat) : Int) from rfl, u8_xor_ints])
        rw [HY.out] at hst
        have HST : Hid _ := hst
        have HGk : Hid _ := hgk
        have HY2 : Hid ((ys.set k (ys[k] ^^^ 85)).length = N) := by unfold Hid; rw [List.length_set]; exact HY.out
        clear hok' hst hok hgk
        go_wp2
        go_roundw
        case rel => exact ⟨k + 1, _, by omega, by go_num, HY2, HST.out.1, HGk.out.trans' HST.out.2⟩
        case measure => simp [intOf]; omega
    · obtain rfl : k = A.length := by omega
      have hk9 : ∀ b, b < w7.heap.size → ¬ b = g → wr.heap[b]? = w7.heap[b]? := fun b hb hne => hgk.block b hb (fun e => hne (Option.some.inj e))
      have HO8 : Hid (On SP w.heap.size X0 wr w.heap.size 6 (L4 A Bb)) := (HO7.out.write hk9).less _ (fun b hb => hb.elim)
      have HB8 : Hid (Below w.heap.size w wr) := HB7.out.trans ((Chg.of_grown hgk (F := fun b => b = g) (fun b e => (Option.some.inj e).symm)).below (fun b e => e ▸ HgB.out) HB7.out.size)
      clear hok hgk hk9 HO7 HG7 HB7 hgl7 HY HgB HN4 hxN hk hlt ys
      obtain ⟨w8, hw8⟩ : ∃ w8, w8 = wr := ⟨_, rfl⟩
      rw [← hw8] at HO8 HB8 ⊢
      clear hw8
      have hcA := conv_rd' (HRA.out _ HB8.out) _ ca rfl
      have hcB := conv_rd' (HRB.out _ HB8.out) _ cb rfl
      focus
        go_wp2
        obtain ⟨w9, hw9⟩ : ∃ w9, w9 = w8.alloc (.cells ((T9 A Bb).map sv).toArray 9) := ⟨_, rfl⟩
        have hb9 : Below w8.heap.size w8 w9 := by rw [hw9]; exact al (Below.refl _ _) _
        have HWT9 : Hid (WantAt w9 w8.heap.size A Bb) := by unfold Hid; rw [hw9]; exact ⟨heap_alloc_new w8 _⟩
        have HOw9 : Hid (Ow w w9 w.heap.size (.slice none 0 0) [] [] (L4 A Bb)) := ⟨World.ownsRow_nil _ _ _ _, ⟨rfl, fun i d t hd => by simp at hd, fun i j d e b hd => by simp at hd⟩, (HO8.out.below hb9).less _ (fun b hb => by obtain ⟨i, d, hd, -⟩ := hb; simp at hd), HB8.out.trans (hb9.mono HB8.out.size)⟩
        go_loopw [9, 11] (fun vl j wr => ∃ (k : Nat) (V : List Dc), k ≤ 8 ∧ j = .int .i64 k ∧ Ow w wr w.heap.size vl V ((T8 A Bb).take k) (L4 A Bb) ∧ WantAt wr w8.heap.size A Bb) (fun _ j _ => 8 - (intOf j).toNat)
        case atStart => exact ⟨0, [], by omega, rfl, by have h9 := HOw9.out; rw [hw9] at h9; exact h9, by have h9 := HWT9.out; rw [hw9] at h9; exact h9⟩
        case round =>
          obtain ⟨k, V, hk, rfl, hOw, hWT⟩ := hrel
          obtain ⟨la, lc, hvl, -⟩ := hOw.row.val
          have hVk : V.length = k := by rw [hOw.fml.len, List.length_take]; show min k 8 = k; omega
          rw [hVk] at hvl
          subst hvl
          have HOw : Hid _ := hOw
          have HWT : Hid _ := hWT
          have HVk : Hid _ := hVk
          clear hOw hWT hVk HOw9 HWT9 hb9 hw9
          by_cases hlt : k < 8
          · focus
              obtain ⟨r, hr⟩ : ∃ r : Nat, r = k % 4 := ⟨_, rfl⟩
              have hrt : (k : Int).tmod 4 = (r : Int) := by rw [Int.tmod_eq_emod_of_nonneg (by omega)]; omega
              have hr4 : r < 4 := by omega
              obtain ⟨e1, e2⟩ := look4 A Bb k hlt r hr
              have HE2 : Hid _ := e2
              have HLK : Hid _ := oLook HOw.out.on (r : Int)
              clear hr e2
              go_wp2_with fail
              refine Calls.mono HLK.out ?_
              rintro e w2 ⟨u, rfl, hown2, hb2⟩
              rw [e1]
              obtain ⟨Y, hY⟩ : ∃ Y, Y = lookX (L4 A Bb) (r : Int) := ⟨_, rfl⟩
              rw [← hY] at hown2
              have HY : Hid _ := hY
              obtain ⟨a2, c2, hu2, -⟩ := hown2.val
              subst hu2
              have HO2 : Hid _ := hown2
              have HB2 : Hid _ := hb2
              have hb2s := Nat.le_trans HOw.out.bel.size hb2.size
              clear hown2 hb2 hY e1 HLK
              go_wp2_with (at_builtin; refine wp_appG1 (K := KL) rfl _ _ rfl w.heap.size (.slice la k lc) V ⟨false, a2, Y.length, c2⟩ k HVk.out.symm ⟨w2.heap.size, 0, none⟩ 1 rfl (OwnG.below (OwnG.below HOw.out.row HB2.out) (al (Below.refl _ _) _)) rfl (rdG_lit (heap_alloc_new _ _) rfl) (by show (k + 1) * 24 ≤ _; omega) (by simp only [maxLen]; omega) (by simp; omega) ?_; intro g5 cap5 w5 hown5 hg5 hat5; have HO5 : Hid _ := hown5; have HG5 : Hid _ := hg5; clear hown5 hg5 hat5)
              have hbb : Below wr.heap.size wr (w2.alloc (.cells #[.slice a2 Y.length c2] KL.t)) := below_next HB2.out (al (Below.refl _ _) _)
              have hOw5 := HOw.out.tell hbb (d := ⟨false, a2, Y.length, c2⟩) (t := Y) (Own.below HO2.out (al (Below.refl _ _) _)) HG5.out HO5.out
              have HOw5 : Hid (Ow w w5 w.heap.size (.slice (some ⟨g5, 0, none⟩) (k + 1) cap5) (V ++ [⟨false, a2, Y.length, c2⟩]) ((T8 A Bb).take (k + 1)) (L4 A Bb)) := by
                have h9 := take_snoc' (T8 A Bb) k Y (by rw [HY.out]; exact HE2.out)
                unfold Hid
                rw [← h9]
                exact hOw5
              have HWT5 : Hid (WantAt w5 w8.heap.size A Bb) := (HWT.out.below hbb).row (HOw.out.row.below hbb) HG5.out
              clear hbb hOw5
              go_roundw
              case rel => exact ⟨k + 1, _, by omega, by go_num, HOw5.out, HWT5.out⟩
              case measure => simp [intOf]; omega
          · obtain rfl : k = 8 := by omega
            skip
            focus
              have HLK : Hid _ := oTakeX HOw.out.on (fun b hb => (HOw.out.fml.lt hb).2) HOw.out.bel.size 3 ⟨by omega, by show (3 : Int) < 4; omega⟩
              go_wp2_with fail
              refine Calls.mono HLK.out ?_
              rintro e w2 ⟨u, rfl, hown2, hP2, hf2⟩
              have e1 : plE (L4 A Bb) 3 = 0 := rfl
              have e2 : lookX (L4 A Bb) 3 = A := rfl
              have e3 : dropL (L4 A Bb) 3 = L3 A Bb := rfl
              rw [e1]
              rw [e2] at hown2
              rw [e3] at hP2
              obtain ⟨a2, c2, hu2, -⟩ := hown2.val
              subst hu2
              have HOw2 : Hid (Ow w w2 w.heap.size (.slice la 8 lc) V ((T8 A Bb).take 8) (L3 A Bb)) := HOw.out.fr hf2 (hP2.less _ (fun b hx => .inl hx))
              have HON2 : Hid _ := hP2
              have HWT2 : Hid _ := HWT.out.fr hf2 (by decide) (by decide)
              have HO2 : Hid _ := hown2
              have hb2s := HOw2.out.bel.size
              have HX : Hid (∀ b, (Value.slice a2 A.length c2).ownBlock = some b → ¬ XV V b) := fun b e hx => by
                have h9 := (HOw.out.fml.lt hx).2
                have h8 := (World.ownsRow.lt hown2 b e).1
                omega
              clear hown2 hP2 hf2 e1 e2 e3 HLK
              go_wp2_with (at_builtin; refine wp_appG1 (K := KL) rfl _ _ rfl w.heap.size (.slice la 8 lc) V ⟨false, a2, A.length, c2⟩ 8 HVk.out.symm ⟨w2.heap.size, 0, none⟩ 1 rfl (OwnG.below HOw2.out.row (al (Below.refl _ _) _)) rfl (rdG_lit (heap_alloc_new _ _) rfl) (by show (8 + 1) * 24 ≤ _; omega) (by simp only [maxLen]; omega) (by simp; omega) ?_; intro gl cap5 w5 hown5 hg5 hat5; have HO5 : Hid _ := hown5; have HG5 : Hid _ := hg5; clear hown5 hg5 hat5)
              have hbb : Below w2.heap.size w2 (w2.alloc (.cells #[.slice a2 A.length c2] KL.t)) := al (Below.refl _ _) _
              have HOw5 : Hid (Ow w w5 w.heap.size (.slice (some ⟨gl, 0, none⟩) (8 + 1) cap5) (V ++ [⟨false, a2, A.length, c2⟩]) (T9 A Bb) (L3 A Bb)) := HOw2.out.tell2 (d := ⟨false, a2, A.length, c2⟩) (t := A) HON2.out (Own.base HO2.out HOw.out.bel.size) HX.out hbb HG5.out HO5.out
              have HWT5 : Hid (WantAt w5 w8.heap.size A Bb) := (HWT2.out.below hbb).row (HOw2.out.row.below hbb) HG5.out
              obtain ⟨V9, hV9⟩ : ∃ V9, V9 = V ++ [(⟨false, a2, A.length, c2⟩ : Dc)] := ⟨_, rfl⟩
              rw [← hV9] at HOw5
              have HV9 : Hid (V9.length = 9) := by unfold Hid; rw [hV9, List.length_append, HVk.out]; rfl
              clear hbb HOw2 HON2 HWT2 HO2 HX HO5 HG5 HOw HWT HVk hV9 V hb2s hlt hk
              have HGE : Hid (∀ (T : List (List UInt8)) (u : World), Ow w u w.heap.size (.slice (some ⟨gl, 0, none⟩) (8 + 1) cap5) V9 T (L3 A Bb) → ∀ k, k < 9 → ∃ d t, V9[k]? = some d ∧ T[k]? = some t ∧ d.n = t.length ∧ Own u w.heap.size d.v t ∧ u.cell? ⟨gl, k, none⟩ = some (.slice d.a d.n d.c)) := fun T u hu k hk => by
                have hk9 : k < V9.length := by rw [HV9.out]; exact hk
                obtain ⟨t, ht, ho⟩ := hu.fml.get (List.getElem?_eq_getElem hk9)
                obtain ⟨g', c', hv', hc'⟩ := hu.cellk (List.getElem?_eq_getElem hk9)
                simp only [Value.slice.injEq, Option.some.injEq, Addr.mk.injEq] at hv'
                obtain ⟨⟨rfl, -, -⟩, -, -⟩ := hv'
                obtain ⟨a9, c9, hv9, -⟩ := ho.val
                simp only [Value.slice.injEq] at hv9
                exact ⟨V9[k], t, List.getElem?_eq_getElem hk9, ht, hv9.2.1, ho, hc'⟩
              have HLT : Hid (∀ (k : Nat) t, (T9 A Bb)[k]? = some t → t.length ≤ 2048) := fun k t h => by
                have h9 : t = A ∨ t = Bb := by
                  have h8 := List.mem_of_getElem? h
                  unfold T9 at h8
                  simp only [List.mem_cons, List.not_mem_nil, or_false] at h8
                  rcases h8 with h8 | h8 | h8 | h8 | h8 | h8 | h8 | h8 | h8
                  · exact .inl h8
                  · exact .inr h8
                  · exact .inl h8
                  · exact .inl h8
                  · exact .inl h8
                  · exact .inr h8
                  · exact .inl h8
                  · exact .inl h8
                  · exact .inl h8
                rcases h9 with rfl | rfl
                · omega
                · omega
              have HLV : Hid (∀ (k : Nat) d, V9[k]? = some d → d.n ≤ 2048) := fun k d h => by
                obtain ⟨t, ht, ho⟩ := HOw5.out.fml.get h
                obtain ⟨a9, c9, hv9, -⟩ := ho.val
                simp only [Value.slice.injEq] at hv9
                rw [hv9.2.1]
                exact HLT.out k t ht
              have HLM : Hid (∀ (k : Nat) (d : Dc) (t : List UInt8), k < 9 → V9[k]? = some d → d.n = t.length → t.length ≤ 2048) := fun k d t _ hd hn => by rw [← hn]; exact HLV.out k d hd
              skip
              go_wp2
              go_loopw [15] (fun j wr => ∃ (k : Nat), k ≤ 9 ∧ j = .int .i64 k ∧ Ow w wr w.heap.size (.slice (some ⟨gl, 0, none⟩) (8 + 1) cap5) V9 (T9 A Bb) (L3 A Bb) ∧ WantAt wr w8.heap.size A Bb) (fun j _ => 9 - (intOf j).toNat)
              case atStart => exact ⟨0, by omega, rfl, HOw5.out, HWT5.out⟩
              case round =>
                obtain ⟨k, hk, rfl, hOw, hWT⟩ := hrel
                have HOw : Hid _ := hOw
                have HWT : Hid _ := hWT
                clear hOw hWT HOw5 HWT5
                by_cases hlt : k < 9
                · focus
                    obtain ⟨d, t, hd, ht, hn, ho, hc⟩ := HGE.out _ _ HOw.out k hlt
                    obtain ⟨dtn, da, dn, dc⟩ := d
                    simp only at hn ho hc
                    subst hn
                    have hcv := conv_rd' (rd_of_own ho) _ dc rfl
                    have hwc := HWT.out.cell ht
                    have hk0 : (0 : Int) ≤ (k : Int) := by omega
                    have hkI : (k : Int) < (9 : Int) := by omega
                    have HCC : Hid (∀ u, Below wr.heap.size wr u → u.cell? ⟨gl, k, none⟩ = some (.slice da t.length dc) ∧ u.cell? ⟨w8.heap.size, k, none⟩ = some (sv t)) := fun u hu => ⟨(hu.cell (World.block_lt_of_cell? wr _ hc)).trans hc, (hu.cell (World.block_lt_of_cell? wr _ hwc)).trans hwc⟩
                    have HCV : Hid (∀ u, Below wr.heap.size wr u → _) := fun u hu => conv_rd' (Rd.below (rd_of_own ho) hu) _ dc rfl
                    have HD : Hid _ := HOw.out.below (Below.refl _ _).drew
                    have HDW : Hid _ := HWT.out.below (Below.refl _ _).drew
                    clear ho hd ht hcv hwc hc
                    go_wp2
                    refine wp_region_noPanic ?_
                    refine wp_region_held_drew (S := (fun u => Below wr.heap.size wr u)) (by kernel_rfl) (by first | exact (Below.refl _ _).drew | assumption) (fun hHeld => ?_)
                    refine take_at (i := 0) 134 (v := ?_) rfl rfl (by kernel_rfl) (by kernel_rfl) (by kernel_rfl) (fun _ _ _ h => h) (by rfl) ?_ hHeld ?_
                    rotate_left
                    · (intro w hSw; (try dsimp only at hSw); go_simp; try with_reducible rfl)
                    simp only [Act.put, List.setIfInBounds_toArray, List.set_cons_zero, List.set_cons_succ]
                    refine take_at (i := 1) 135 (v := ?_) rfl rfl (by kernel_rfl) (by kernel_rfl) (by kernel_rfl) (fun _ _ _ h => h) (by rfl) ?_ hHeld ?_
                    rotate_left
                    · (intro w hSw; (try dsimp only at hSw); go_simp; try with_reducible rfl)
                    simp only [Act.put, List.setIfInBounds_toArray, List.set_cons_zero, List.set_cons_succ]
                    refine take_at (i := 2) 136 (v := ?_) rfl rfl (by kernel_rfl) (by kernel_rfl) (by kernel_rfl) (fun _ _ _ h => h) (by rfl) ?_ hHeld ?_
                    rotate_left
                    · (intro w hSw; (try dsimp only at hSw); go_simp; try with_reducible rfl)
                    simp only [Act.put, List.setIfInBounds_toArray, List.set_cons_zero, List.set_cons_succ]
                    refine take_at (i := 3) 137 (v := ?_) rfl rfl (by kernel_rfl) (by kernel_rfl) (by kernel_rfl) (fun _ _ _ h => h) (by rfl) ?_ hHeld ?_
                    rotate_left
                    · (intro w hSw; (try dsimp only at hSw); go_simp; try with_reducible rfl)
                    simp only [Act.put, List.setIfInBounds_toArray, List.set_cons_zero, List.set_cons_succ]
                    refine take_at (i := 4) 138 (v := ?_) rfl rfl (by kernel_rfl) (by kernel_rfl) (by kernel_rfl) (fun _ _ _ h => h) (by rfl) ?_ hHeld ?_
                    rotate_left
                    · (intro w hSw; (try dsimp only at hSw); go_simp; try with_reducible rfl)
                    simp only [Act.put, List.setIfInBounds_toArray, List.set_cons_zero, List.set_cons_succ]
                    refine take_at (i := 5) 139 (v := ?_) rfl rfl (by kernel_rfl) (by kernel_rfl) (by kernel_rfl) (fun _ _ _ h => h) (by rfl) ?_ hHeld ?_
                    rotate_left
                    · (intro w hSw; (try dsimp only at hSw); go_simp; try with_reducible rfl)
                    simp only [Act.put, List.setIfInBounds_toArray, List.set_cons_zero, List.set_cons_succ]
                    refine take_at (i := 6) 140 (v := .slice da t.length dc) rfl rfl (by kernel_rfl) (by kernel_rfl) (by kernel_rfl) (fun _ _ _ h => h) (by rfl) ?_ hHeld ?_
                    · (intro w hSw; obtain ⟨hc9, -⟩ := HCC.out _ hSw; go_simp; try with_reducible rfl)
                    simp only [Act.put, List.setIfInBounds_toArray, List.set_cons_zero, List.set_cons_succ]
                    refine take_at (i := 7) 141 (v := .string ⟨t.toArray⟩) rfl rfl (by kernel_rfl) (by kernel_rfl) (by kernel_rfl) (fun _ _ _ h => h) (by rfl) ?_ hHeld ?_
                    · (intro w hSw; have h9 := HCV.out _ hSw; go_simp; try with_reducible rfl)
                    simp only [Act.put, List.setIfInBounds_toArray, List.set_cons_zero, List.set_cons_succ]
                    refine take_at (i := 8) 142 (v := ?_) rfl rfl (by kernel_rfl) (by kernel_rfl) (by kernel_rfl) (fun _ _ _ h => h) (by rfl) ?_ hHeld ?_
                    rotate_left
                    · (intro w hSw; (try dsimp only at hSw); go_simp; try with_reducible rfl)
                    simp only [Act.put, List.setIfInBounds_toArray, List.set_cons_zero, List.set_cons_succ]
                    refine take_at (i := 9) 143 (v := ?_) rfl rfl (by kernel_rfl) (by kernel_rfl) (by kernel_rfl) (fun _ _ _ h => h) (by rfl) ?_ hHeld ?_
                    rotate_left
                    · (intro w hSw; (try dsimp only at hSw); go_simp; try with_reducible rfl)
                    simp only [Act.put, List.setIfInBounds_toArray, List.set_cons_zero, List.set_cons_succ]
                    refine take_at (i := 10) 144 (v := ?_) rfl rfl (by kernel_rfl) (by kernel_rfl) (by kernel_rfl) (fun _ _ _ h => h) (by rfl) ?_ hHeld ?_
                    rotate_left
                    · (intro w hSw; (try dsimp only at hSw); go_simp; try with_reducible rfl)
                    simp only [Act.put, List.setIfInBounds_toArray, List.set_cons_zero, List.set_cons_succ]
                    refine take_at (i := 11) 145 (v := sv t) rfl rfl (by kernel_rfl) (by kernel_rfl) (by kernel_rfl) (fun _ _ _ h => h) (by rfl) ?_ hHeld ?_
                    · (intro w hSw; obtain ⟨-, hc9⟩ := HCC.out _ hSw; go_simp; try with_reducible rfl)
                    simp only [Act.put, List.setIfInBounds_toArray, List.set_cons_zero, List.set_cons_succ]
                    refine take_at (i := 12) 146 (v := ?_) rfl rfl (by kernel_rfl) (by kernel_rfl) (by kernel_rfl) (fun _ _ _ h => h) (by rfl) ?_ hHeld ?_
                    rotate_left
                    · (intro w hSw; (try dsimp only at hSw); go_simp; try with_reducible rfl)
                    simp only [Act.put, List.setIfInBounds_toArray, List.set_cons_zero, List.set_cons_succ]
                    refine take_at (i := 13) 147 (v := ?_) rfl rfl (by kernel_rfl) (by kernel_rfl) (by kernel_rfl) (fun _ _ _ h => h) (by rfl) ?_ hHeld ?_
                    rotate_left
                    · (intro w hSw; (try dsimp only at hSw); go_simp; try with_reducible rfl)
                    simp only [Act.put, List.setIfInBounds_toArray, List.set_cons_zero, List.set_cons_succ]
                    refine wpAnyH_done (by kernel_rfl) ?_ _
                    refine NoPanic.normal ?_
                    go_wp2
                    go_roundw
                    case rel => exact ⟨k + 1, by omega, by go_num, HD.out, HDW.out⟩
                    case measure => simp [intOf]; omega
                · obtain rfl : k = 9 := by omega
                  clear hlt hk HWT
                  focus
                    go_wp2
                    go_loopw [16] (fun j wr => ∃ (k : Nat) (T : List (List UInt8)), k ≤ 9 ∧ j = .int .i64 k ∧ Ow w wr w.heap.size (.slice (some ⟨gl, 0, none⟩) (8 + 1) cap5) V9 T (L3 A Bb) ∧ Hid (∀ i d, i < k → V9[i]? = some d → T[i]? = some (List.replicate d.n (mkB i)))) (fun j _ => 9 - (intOf j).toNat)
                    case atStart => exact ⟨0, _, by omega, rfl, HOw.out, fun i d hi => by omega⟩
                    case round =>
                      obtain ⟨k, T, hk, rfl, hOw, HM⟩ := hrel
                      have HOk : Hid _ := hOw
                      clear hOw HOw
                      by_cases hlt : k < 9
                      · focus
                          obtain ⟨d, t, hd, ht, hn, ho, hc⟩ := HGE.out _ _ HOk.out k hlt
                          have hk0 : (0 : Int) ≤ (k : Int) := by omega
                          have hkI : (k : Int) < (9 : Int) := by omega
                          have hkby : ((k : Int) + 1) % 256 = ((mkB k).toNat : Int) := by unfold mkB; rw [UInt8.toNat_ofNat']; omega
                          have hdn : d.n ≤ 2048 := HLV.out k d hd
                          have HDk : Hid _ := hd
                          clear ho hc ht hn
                          go_wp2
                          go_loopw [17] (fun j2 wr => ∃ (m : Nat) (T : List (List UInt8)) (t : List UInt8), m ≤ d.n ∧ j2 = .int .i64 m ∧ Ow w wr w.heap.size (.slice (some ⟨gl, 0, none⟩) (8 + 1) cap5) V9 T (L3 A Bb) ∧ Hid (∀ i d, i < k → V9[i]? = some d → T[i]? = some (List.replicate d.n (mkB i))) ∧ T[k]? = some t ∧ Hid (∀ q, q < m → t[q]? = some (mkB k))) (fun j2 _ => d.n - (intOf j2).toNat)
                          case atStart =>
                            obtain ⟨t, ht, -⟩ := HOk.out.fml.get HDk.out
                            exact ⟨0, T, t, Nat.zero_le _, rfl, HOk.out, HM, ht, fun q hq => by omega⟩
                          case round =>
                            obtain ⟨m, T2, t2, hm, rfl, hOw2, HM2, ht2, HQ2⟩ := hrel
                            have ho2 := hOw2.fml.own k d t2 HDk.out ht2
                            obtain ⟨a9, c9, hv9, -⟩ := ho2.val
                            simp only [Value.slice.injEq] at hv9
                            have hdl : d.n = t2.length := hv9.2.1
                            obtain ⟨g9, c8, hv8, hc8⟩ := hOw2.cellk HDk.out
                            simp only [Value.slice.injEq, Option.some.injEq, Addr.mk.injEq] at hv8
                            obtain ⟨⟨rfl, -, -⟩, -, -⟩ := hv8
                            have HOw2 : Hid _ := hOw2
                            clear HOk HM hv9
                            by_cases hlt2 : m < d.n
                            · obtain ⟨g2, c2, hv2, -⟩ := own_head ho2 (by omega)
                              obtain ⟨dtn, da, dn, dc⟩ := d
                              simp only [Value.slice.injEq] at hv2
                              obtain ⟨rfl, rfl, rfl⟩ := hv2
                              have hcell : wr.cell? ⟨g2, m, none⟩ = some (.int .u8 (t2[m].toNat : Int)) := by
                                rw [World.ownsRow.cellAt ho2 m (by omega), bv_get _ m (by simpa using hlt2)]
                              have hfz := World.ownsRow.frozenAt ho2 m
                              have hst := own_set ho2 m (mkB k) ((k : Int) + 1) (by unfold mkB; rw [UInt8.toNat_ofNat']; omega)
                              have hOw3 := hOw2.setr hst.2 HDk.out rfl (t' := t2.set m (mkB k)) hst.1
                              have HOw3 : Hid _ := hOw3
                              have HM3 : Hid (∀ i d, i < k → V9[i]? = some d → (T2.set k (t2.set m (mkB k)))[i]? = some (List.replicate d.n (mkB i))) := fun i d hi hd => by
                                rw [List.getElem?_set, if_neg (by omega)]
                                exact HM2.out i d hi hd
                              have HT3 : Hid ((T2.set k (t2.set m (mkB k)))[k]? = some (t2.set m (mkB k))) := by
                                unfold Hid
                                have h9 := (List.getElem?_eq_some_iff.1 ht2).1
                                rw [List.getElem?_set, if_pos rfl, if_pos h9]
                              have HQ3 : Hid (∀ q, q < m + 1 → (t2.set m (mkB k))[q]? = some (mkB k)) := fun q hq => by
                                rw [List.getElem?_set]
                                by_cases e : m = q
                                · rw [if_pos e, if_pos (by simpa using hlt2)]
                                · rw [if_neg e]; exact HQ2.out q (by omega)
                              have hmI : (m : Int) < (t2.length : Int) := by simpa using hlt2
                              have hm0 : (0 : Int) ≤ (m : Int) := by omega
                              clear hst hOw3 ho2 hOw2 ht2 hdl
                              go_wp2
                              go_roundw
                              case rel => exact ⟨m + 1, _, _, by simp only at *; omega, by go_num, HOw3.out, HM3, HT3.out, HQ3⟩
                              case measure => simp [intOf]; simp only at *; omega
                            · obtain rfl : m = d.n := by omega
                              have HM3 : Hid (∀ i e, i < k + 1 → V9[i]? = some e → T2[i]? = some (List.replicate e.n (mkB i))) := fun i e hi he => by
                                by_cases hik : i = k
                                · subst hik
                                  have h9 := Option.some.inj (HDk.out.symm.trans he)
                                  subst h9
                                  rw [ht2]
                                  congr 1
                                  apply List.ext_getElem?
                                  intro q
                                  by_cases hq : q < d.n
                                  · rw [HQ2.out q hq, List.getElem?_replicate, if_pos hq]
                                  · rw [List.getElem?_eq_none (by omega), List.getElem?_eq_none (by rw [List.length_replicate]; omega)]
                                · exact HM2.out i e (by omega) he
                              have hdI : ¬ (d.n : Int) < (d.n : Int) := by omega
                              clear ho2 hOw2 ht2 hdl HQ2 HM2
                              go_wp2
                              go_roundw
                              case rel => exact ⟨k + 1, T2, by omega, by go_num, HOw2.out, HM3⟩
                              case measure => simp [intOf]; omega
                      · obtain rfl : k = 9 := by omega
                        clear hlt hk
                        focus
                          go_wp2
                          go_loopw [18] (fun j wr => ∃ (k : Nat), k ≤ 9 ∧ j = .int .i64 k ∧ Ow w wr w.heap.size (.slice (some ⟨gl, 0, none⟩) (8 + 1) cap5) V9 T (L3 A Bb)) (fun j _ => 9 - (intOf j).toNat)
                          case atStart => exact ⟨0, by omega, rfl, HOk.out⟩
                          case round =>
                            obtain ⟨k, hk, rfl, hOw⟩ := hrel
                            have HOg : Hid _ := hOw
                            clear hOw HOk
                            by_cases hlt : k < 9
                            · focus
                                obtain ⟨d, t, hd, ht, hn, ho, hc⟩ := HGE.out _ _ HOg.out k hlt
                                have hk0 : (0 : Int) ≤ (k : Int) := by omega
                                have hkI : (k : Int) < (9 : Int) := by omega
                                have hdn : d.n ≤ 2048 := HLV.out k d hd
                                have HDk : Hid _ := hd
                                have HTk : Hid _ := ht
                                have HMo : Hid _ := Mor.start HOg.out hd ht
                                have hdl : Hid (t.length = d.n) := hn.symm
                                clear ho ht hn hd
                                go_wp2
                                go_loopw [19, 20] (fun more j2 wr => ∃ (m : Nat) (zs : List UInt8), m ≤ 64 ∧ j2 = .int .i64 m ∧ Hid (zs.length = d.n + m) ∧ Ow w wr w.heap.size (.slice (some ⟨gl, 0, none⟩) (8 + 1) cap5) V9 T (L3 A Bb) ∧ Mor w wr w.heap.size (.slice (some ⟨gl, 0, none⟩) (8 + 1) cap5) V9 (L3 A Bb) k d t more zs) (fun _ j2 _ => 64 - (intOf j2).toNat)
                                case atStart => exact ⟨0, t, Nat.zero_le _, rfl, hdl.out, HOg.out, HMo.out⟩
                                case round =>
                                  obtain ⟨m, zs, hm, rfl, HZ, hOw2, hMo2⟩ := hrel
                                  obtain ⟨ma, mc, hmv, -⟩ := hMo2.own.val
                                  obtain ⟨zl, hzl⟩ : ∃ zl, zl = zs.length := ⟨_, rfl⟩
                                  rw [← hzl] at hmv
                                  subst hmv
                                  have HZL : Hid _ := hzl
                                  clear hzl
                                  have HOA : Hid (∀ o : Obj, (wr.alloc o).ownsRow w.heap.size 5 1 (.slice ma zl mc) (bv zs).length (bv zs)) := fun o => by
                                    rw [bv_length]
                                    exact Own.below hMo2.own (al (Below.refl _ _) o)
                                  have HNW : Hid (∀ o : Obj, (wr.alloc o).heap[wr.heap.size]? = some o) := fun o => heap_alloc_new wr o
                                  have HOw2 : Hid _ := hOw2
                                  have HMo2 : Hid _ := hMo2
                                  clear HOg HMo hOw2 hMo2
                                  by_cases hlt2 : m < 64
                                  · have hbs := HOw2.out.bel.size
                                    go_wp2_with (at_builtin; refine wp_app1I rfl _ _ 26 5 (.int .u8 0) 1 rfl Tryd.underlying26 (by kernel_rfl) rfl w.heap.size (.slice ma zl mc) (bv zs) rfl (HOA.out _) wr.heap.size 1 (.int .u8 222) rfl (HNW.out _) rfl (by rw [bv_length, HZ.out]; omega) (by rw [bv_length, HZ.out]; omega) (by simp; omega) ?_; intro v3 w3 hown3 hc3; have HO3 : Hid _ := hown3; have HC3 : Hid _ := hc3; clear hown3 hc3)
                                    have hx : bv zs ++ [Value.int .u8 222] = bv (zs ++ [222]) := by rw [bv_append]; rfl
                                    have ho3 : Own w3 w.heap.size v3 (zs ++ [222]) := by
                                      have h9 := HO3.out
                                      rw [hx] at h9
                                      unfold Own
                                      rw [← bv_length (zs ++ [222])]
                                      exact h9
                                    have hc3 := HC3.out
                                    rw [hx, bv_length, bv_length] at hc3
                                    obtain ⟨h8, h9⟩ := Mor.step HOw2.out HDk.out HTk.out HMo2.out (al (Below.refl _ _) _) ho3 hc3
                                    have HOw3 : Hid _ := h8
                                    have HMo3 : Hid _ := h9
                                    have HZ3 : Hid ((zs ++ [(222 : UInt8)]).length = d.n + (m + 1)) := by unfold Hid; rw [List.length_append, HZ.out]; show d.n + m + 1 = _; omega
                                    obtain ⟨a3, c3, hv3, -⟩ := ho3.val
                                    subst hv3
                                    clear hx ho3 hc3 h8 h9 HO3 HC3 HOA HNW
                                    go_roundw
                                    case rel =>
                                      iterate 9 (apply Exists.intro)
                                      refine And.intro ?_ rfl
                                      exact ⟨m + 1, _, by omega, by go_num, HZ3, HOw3.out, HMo3.out⟩
                                    case measure => simp [intOf]; omega
                                  · obtain rfl : m = 64 := by omega
                                    go_wp2
                                    go_roundw
                                    case rel => exact ⟨k + 1, by omega, by go_num, HOw2.out⟩
                                    case measure => simp [intOf]; omega
                            · obtain rfl : k = 9 := by omega
                              clear hlt hk
                              focus
                                obtain ⟨w12, hw12⟩ : ∃ w12, w12 = wr := ⟨_, rfl⟩
                                rw [← hw12] at HOg ⊢
                                clear hw12
                                go_wp2
                                go_loopw [21] (fun j wr => ∃ (k : Nat), k ≤ 9 ∧ j = .int .i64 k ∧ wr = w12) (fun j _ => 9 - (intOf j).toNat)
                                case atStart => exact ⟨0, by omega, rfl, rfl⟩
                                case round =>
                                  obtain ⟨k, hk, rfl, hwr⟩ := hrel
                                  have hwr := hwr.symm
                                  subst hwr
                                  by_cases hlt : k < 9
                                  · focus
                                      obtain ⟨d, t, hd, ht, hn, ho, hc⟩ := HGE.out _ _ HOg.out k hlt
                                      have hk0 : (0 : Int) ≤ (k : Int) := by omega
                                      have hkI : (k : Int) < (9 : Int) := by omega
                                      have hdn : d.n ≤ 2048 := HLV.out k d hd
                                      have hkby : ((k : Int) + 1) % 256 = ((mkB k).toNat : Int) := by unfold mkB; rw [UInt8.toNat_ofNat']; omega
                                      have htr : t = List.replicate d.n (mkB k) := Option.some.inj (ht.symm.trans (HM.out k d hlt hd))
                                      have HTR : Hid _ := htr
                                      have HOd : Hid _ := ho
                                      have hkk : (((k : Int) + 1) != ((k : Int) + 1)) = false := by simp
                                      clear ht hn hd htr ho
                                      go_wp2
                                      go_loopw [22] (fun j2 wr => ∃ (m : Nat), m ≤ d.n ∧ j2 = .int .i64 m ∧ wr = w12) (fun j2 _ => d.n - (intOf j2).toNat)
                                      case atStart => exact ⟨0, Nat.zero_le _, rfl, rfl⟩
                                      case round =>
                                        obtain ⟨m, hm, rfl, hwr⟩ := hrel
                                        have hwr := hwr.symm
                                        subst hwr
                                        by_cases hlt2 : m < d.n
                                        · have ho2 := HOd.out
                                          have htl : t.length = d.n := by rw [HTR.out, List.length_replicate]
                                          obtain ⟨g2, c2, hv2, -⟩ := own_head ho2 (by omega)
                                          obtain ⟨dtn, da, dn, dc⟩ := d
                                          simp only [Value.slice.injEq] at hv2
                                          obtain ⟨rfl, hdn2, rfl⟩ := hv2
                                          simp only at hlt2 htl hm hdn
                                          have hcell : w12.cell? ⟨g2, m, none⟩ = some (.int .u8 ((k : Int) + 1)) := by
                                            have ho3 : Own w12 w.heap.size (.slice (some ⟨g2, 0, none⟩) t.length dc) t := by rw [← hdn2]; exact ho2
                                            have h9 := World.ownsRow.cellAt ho3 m (by omega)
                                            rw [h9, bv_get _ m (by omega)]
                                            simp only [HTR.out, List.getElem_replicate]
                                            congr 2
                                            unfold mkB
                                            rw [UInt8.toNat_ofNat']
                                            omega
                                          have hmI : (m : Int) < (dn : Int) := by omega
                                          have hm0 : (0 : Int) ≤ (m : Int) := by omega
                                          clear ho2 htl hdn2 HOd HTR
                                          go_wp2
                                          go_roundw
                                          case rel => exact ⟨m + 1, by omega, by go_num, trivial⟩
                                          case measure => (simp [intOf]; omega)
                                        · obtain rfl : m = d.n := by omega
                                          have hdI : ¬ (d.n : Int) < (d.n : Int) := by omega
                                          go_wp2
                                          go_roundw
                                          case rel => exact ⟨k + 1, by omega, by push_cast; rfl⟩
                                          case measure => simp [intOf]; omega
                                  · obtain rfl : k = 9 := by omega
                                    clear hlt hk
                                    focus
                                      have HON : Hid (On SP w.heap.size X0 w12 w.heap.size 6 (L3 A Bb)) := HOg.out.on.less _ (fun b hb => hb.elim)
                                      have HBW : Hid _ := HOg.out.bel
                                      clear HOg HGE HM HLM HLT HLV HV9
                                      by_cases hA0 : A.length = 0
                                      · have hbz : bst 0 1 A 32 = A := by
                                          obtain rfl : A = [] := List.eq_nil_of_length_eq_zero hA0
                                          exact List.eq_nil_of_length_eq_zero (by rw [bst_len]; rfl)
                                        have HBZ : Hid _ := hbz
                                        have hAn : ¬ (0 : Int) < (A.length : Int) := by omega
                                        clear hbz hA0
                                        focus
                                          have HBU : Hid (∀ u : World, Below w.heap.size w u → Calls _ _ _ u _) := fun u hu => burst_any aa ca A 0 1 u (HRA.out u hu) HNA.out (by omega) (by omega) (by omega) (by omega)
                                          go_wp2_with fail
                                          refine Calls.mono (oLook HON.out 0) ?_
                                          rintro e wa ⟨ua, rfl, howna, hba⟩
                                          have ea : lookX (L3 A Bb) 0 = A := rfl
                                          have pa : plE (L3 A Bb) 0 = 0 := rfl
                                          rw [pa]
                                          rw [ea] at howna
                                          obtain ⟨va, xa, hua, -, -, -, hra, -⟩ := howna.val
                                          subst hua
                                          have HONa : Hid _ := HON.out.below hba
                                          have HBWa : Hid _ := HBW.out.trans (hba.mono HBW.out.size)
                                          have HRa : Hid _ := hra
                                          clear howna hba ea pa hra
                                          go_wp2_with fail
                                          refine Calls.mono (oLook HONa.out 1) ?_
                                          rintro e wb ⟨ub, rfl, hownb, hbb⟩
                                          have eb : lookX (L3 A Bb) 1 = Bb := rfl
                                          have pb : plE (L3 A Bb) 1 = 0 := rfl
                                          rw [pb]
                                          rw [eb] at hownb
                                          obtain ⟨vb, xb, hub, -, -, -, hrb, -⟩ := hownb.val
                                          subst hub
                                          have HONb : Hid _ := HONa.out.below hbb
                                          have HBWb : Hid _ := HBWa.out.trans (hbb.mono HBWa.out.size)
                                          have HRa2 : Hid _ := Rd.below HRa.out hbb
                                          have HRb : Hid _ := hrb
                                          clear hownb hbb eb pb hrb
                                          go_wp2_with fail
                                          refine Calls.mono (oLook HONb.out 2) ?_
                                          rintro e wc ⟨uc, rfl, hownc, hbc⟩
                                          have ec : lookX (L3 A Bb) 2 = A := rfl
                                          have pc : plE (L3 A Bb) 2 = 0 := rfl
                                          rw [pc]
                                          rw [ec] at hownc
                                          obtain ⟨Y, hY⟩ : ∃ Y, Y = A := ⟨_, rfl⟩
                                          rw [← hY] at hownc
                                          obtain ⟨vc, xc, huc, -, -, -, hrc, -⟩ := hownc.val
                                          subst huc
                                          have HONc : Hid _ := HONb.out.below hbc
                                          have HBWc : Hid _ := HBWb.out.trans (hbc.mono HBWb.out.size)
                                          have HRa3 : Hid _ := Rd.below HRa2.out hbc
                                          have HRb3 : Hid _ := Rd.below HRb.out hbc
                                          have HRc : Hid _ := hrc
                                          have HY : Hid _ := hY
                                          clear hownc hbc ec pc hrc hY
                                          go_wp2_with fail
                                          refine Calls.mono (HBU.out _ HBWc.out) ?_
                                          rintro e wd ⟨ud, rfl, hownd, hbd⟩
                                          rw [HBZ.out, ← HY.out] at hownd
                                          obtain ⟨vd, xd, hud, -, -, -, hrd, -⟩ := hownd.val
                                          subst hud
                                          have hc1 := conv_rd' (Rd.below HRa3.out hbd) _ xa rfl
                                          have hc2 := conv_rd' (Rd.below HRb3.out hbd) _ xb rfl
                                          have hc3 := conv_rd' (Rd.below HRc.out hbd) _ xc rfl
                                          have hc4 := conv_rd' hrd _ xd rfl
                                          have HBWd : Hid _ := HBWc.out.trans (hbd.mono HBWc.out.size)
                                          have hc5 := conv_rd' (HRA.out _ HBWd.out) _ ca rfl
                                          have hc6 := conv_rd' (HRB.out _ HBWd.out) _ cb rfl
                                          have HLEN : Hid (Calls Tryd.prog 9 #[.pointer (some ⟨w.heap.size, 0, none⟩)] wd fun e w' => e = .returned (.int .i64 3) ∧ w' = wd) := oLen (HONc.out.below hbd)
                                          clear hownd hbd hrd
                                          go_wp2_with (go_at_call 9; refine Calls.mono HLEN.out ?_; rintro e w9 ⟨rfl, hq⟩; have hq := hq.symm; subst hq)
                                          go_ret
                                          exact ⟨by first | rfl | simp, HBWd.out⟩
                                      · have hAp : (0 : Int) < (A.length : Int) := by omega
                                        have hwk : wOk A.length 0 1 = true := by
                                          unfold wOk
                                          rw [Bool.and_eq_true]
                                          refine ⟨by decide, (okB_iff _ _ _).2 (fun j hj hb => ?_)⟩
                                          match j, hj with
                                          | 0, _ => omega
                                          | j + 1, _ =>
                                            exfalso
                                            have h9 : (1 : Nat) / 2 ^ (j + 1) = 0 := Nat.div_eq_of_lt (by have := Nat.one_lt_two_pow (n := j + 1) (by omega); omega)
                                            rw [h9] at hb
                                            cases hb
                                        have e1 : trnE (L3 A Bb) 2 0 1 = 0 := by
                                          unfold trnE
                                          rw [if_pos ⟨by omega, by show (2 : Int) < 3; omega⟩]
                                          show (if wOk A.length 0 1 = true then (if false = true then (3 : Int) else 0) else 1) = 0
                                          rw [hwk]
                                          rfl
                                        have e2 : trnL (L3 A Bb) 2 0 1 = [D0 A, D0 Bb, ⟨bst 0 1 A 32, true⟩] := by
                                          unfold trnL
                                          rw [if_pos ⟨by omega, by show (2 : Int) < 3; omega⟩]
                                          show (if wOk A.length 0 1 = true then (if false = true then L3 A Bb else (L3 A Bb).set 2 ⟨bst 0 1 A 32, true⟩) else L3 A Bb) = _
                                          rw [hwk]
                                          rfl
                                        have HTU : Hid (Calls Tryd.prog 13 #[.pointer (some ⟨w.heap.size, 0, none⟩), .int .i64 2, .int .i64 0, .int .u32 1] w12 fun e w' => e = .returned (.int .i64 0) ∧ On SP w.heap.size X0 w' w.heap.size 6 [D0 A, D0 Bb, ⟨bst 0 1 A 32, true⟩] ∧ Fr SP w.heap.size w12 w') := by
                                          have h9 := oTurn HON.out (fun b hb => hb.elim) HBW.out.size 2 0 1 (by omega) (by omega) (by omega) (HTZ.out _ HBW.out)
                                          rw [e1, e2] at h9
                                          exact h9
                                        clear e1 e2 hwk hA0
                                        go_wp2_with fail
                                        refine Calls.mono HTU.out ?_
                                        rintro e w13 ⟨rfl, hP13, hf13⟩
                                        have HON3 : Hid _ := hP13
                                        have HBW3 : Hid _ := HBW.out.trans hf13.bel
                                        clear hP13 hf13 HTU HON
                                        focus
                                          have HBU : Hid (∀ u : World, Below w.heap.size w u → Calls _ _ _ u _) := fun u hu => burst_any aa ca A 0 1 u (HRA.out u hu) HNA.out (by omega) (by omega) (by omega) (by omega)
                                          go_wp2_with fail
                                          refine Calls.mono (oLook HON3.out 0) ?_
                                          rintro e wa ⟨ua, rfl, howna, hba⟩
                                          have ea : lookX [D0 A, D0 Bb, ⟨bst 0 1 A 32, true⟩] 0 = A := rfl
                                          have pa : plE [D0 A, D0 Bb, ⟨bst 0 1 A 32, true⟩] 0 = 0 := rfl
                                          rw [pa]
                                          rw [ea] at howna
                                          obtain ⟨va, xa, hua, -, -, -, hra, -⟩ := howna.val
                                          subst hua
                                          have HONa : Hid _ := HON3.out.below hba
                                          have HBWa : Hid _ := HBW3.out.trans (hba.mono HBW3.out.size)
                                          have HRa : Hid _ := hra
                                          clear howna hba ea pa hra
                                          go_wp2_with fail
                                          refine Calls.mono (oLook HONa.out 1) ?_
                                          rintro e wb ⟨ub, rfl, hownb, hbb⟩
                                          have eb : lookX [D0 A, D0 Bb, ⟨bst 0 1 A 32, true⟩] 1 = Bb := rfl
                                          have pb : plE [D0 A, D0 Bb, ⟨bst 0 1 A 32, true⟩] 1 = 0 := rfl
                                          rw [pb]
                                          rw [eb] at hownb
                                          obtain ⟨vb, xb, hub, -, -, -, hrb, -⟩ := hownb.val
                                          subst hub
                                          have HONb : Hid _ := HONa.out.below hbb
                                          have HBWb : Hid _ := HBWa.out.trans (hbb.mono HBWa.out.size)
                                          have HRa2 : Hid _ := Rd.below HRa.out hbb
                                          have HRb : Hid _ := hrb
                                          clear hownb hbb eb pb hrb
                                          go_wp2_with fail
                                          refine Calls.mono (oLook HONb.out 2) ?_
                                          rintro e wc ⟨uc, rfl, hownc, hbc⟩
                                          have ec : lookX [D0 A, D0 Bb, ⟨bst 0 1 A 32, true⟩] 2 = bst 0 1 A 32 := rfl
                                          have pc : plE [D0 A, D0 Bb, ⟨bst 0 1 A 32, true⟩] 2 = 0 := rfl
                                          rw [pc]
                                          rw [ec] at hownc
                                          obtain ⟨Y, hY⟩ : ∃ Y, Y = bst 0 1 A 32 := ⟨_, rfl⟩
                                          rw [← hY] at hownc
                                          obtain ⟨vc, xc, huc, -, -, -, hrc, -⟩ := hownc.val
                                          subst huc
                                          have HONc : Hid _ := HONb.out.below hbc
                                          have HBWc : Hid _ := HBWb.out.trans (hbc.mono HBWb.out.size)
                                          have HRa3 : Hid _ := Rd.below HRa2.out hbc
                                          have HRb3 : Hid _ := Rd.below HRb.out hbc
                                          have HRc : Hid _ := hrc
                                          have HY : Hid _ := hY
                                          clear hownc hbc ec pc hrc hY
                                          go_wp2_with fail
                                          refine Calls.mono (HBU.out _ HBWc.out) ?_
                                          rintro e wd ⟨ud, rfl, hownd, hbd⟩
                                          rw [← HY.out] at hownd
                                          obtain ⟨vd, xd, hud, -, -, -, hrd, -⟩ := hownd.val
                                          subst hud
                                          have hc1 := conv_rd' (Rd.below HRa3.out hbd) _ xa rfl
                                          have hc2 := conv_rd' (Rd.below HRb3.out hbd) _ xb rfl
                                          have hc3 := conv_rd' (Rd.below HRc.out hbd) _ xc rfl
                                          have hc4 := conv_rd' hrd _ xd rfl
                                          have HBWd : Hid _ := HBWc.out.trans (hbd.mono HBWc.out.size)
                                          have hc5 := conv_rd' (HRA.out _ HBWd.out) _ ca rfl
                                          have hc6 := conv_rd' (HRB.out _ HBWd.out) _ cb rfl
                                          have HLEN : Hid (Calls Tryd.prog 9 #[.pointer (some ⟨w.heap.size, 0, none⟩)] wd fun e w' => e = .returned (.int .i64 3) ∧ w' = wd) := oLen (HONc.out.below hbd)
                                          clear hownd hbd hrd
                                          go_wp2_with (go_at_call 9; refine Calls.mono HLEN.out ?_; rintro e w9 ⟨rfl, hq⟩; have hq := hq.symm; subst hq)
                                          go_ret
                                          exact ⟨by first | rfl | simp, HBWd.out⟩
end Go.Proofs.YtnpcgegcoakbmaaDoor
