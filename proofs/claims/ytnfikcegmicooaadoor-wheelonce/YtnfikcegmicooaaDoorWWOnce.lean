import Derived.Test.YtnfikcegmicooaaDoorLwO
import Derived.Test.YtnfikcegmicooaaDoorLwD
import Derived.Test.YtnfikcegmicooaaDoorOpenW
namespace Go.Proofs.YtnfikcegmicooaaDoor
set_option linter.unusedVariables false
set_option linter.unusedSimpArgs false
open Go.RowKit Go.Maps Go.Shelf
theorem book_kept {w w' : World} {B p m N S : Nat} {L M : List Tm} {V V' : Nat → Nat → Value} {bk : Value} (h : Wt w p m N S L V) (hb : OwnD w B bk M) (hs : Stp w w' p m V V') : OwnD w' B bk M :=
  rowD_kept hb (fun y hy => hs.chg.block y (World.ownsRow.lt hb y hy).2 (fun hf => by
    obtain ⟨cur, e⟩ := rowD_at hb hy
    rcases h.types hf with ⟨C, e'⟩ | ⟨C, e'⟩ | ⟨es, cl, e'⟩ <;> rw [e] at e' <;> simp only [Option.some.injEq, Obj.cells.injEq, reduceCtorEq] at e'
    · exact absurd e'.2.1 (by decide)
    · exact absurd e'.2.1 (by decide)))
theorem cell4' {w : World} {P : Nat} {a b c d : Value} {t : TypeId} (h : w.heap[P]? = some (.cells #[a, b, c, d] t (0, 0))) : w.cell? ⟨P, 0, none⟩ = some a ∧ w.cell? ⟨P, 1, none⟩ = some b ∧ w.cell? ⟨P, 2, none⟩ = some c ∧ w.cell? ⟨P, 3, none⟩ = some d :=
  ⟨by rw [cell_of_row _ _ _ _ _ _ h]; rfl, by rw [cell_of_row _ _ _ _ _ _ h]; rfl, by rw [cell_of_row _ _ _ _ _ _ h]; rfl, by rw [cell_of_row _ _ _ _ _ _ h]; rfl⟩
/-- what an Advance tells, for the book -/
theorem ring_in {N S x : Nat} {L D : List Tm} (ho : Ord N S L) (h : AdvA L N x D) : D.Pairwise ltT ∧ (∀ t, t ∈ D → t ∈ L ∧ t.at_ ≤ max N (min x mxN)) ∧ lef L D = advL L N x := by
  unfold AdvA at h
  unfold advL
  by_cases hx : N < min x mxN
  · rw [if_pos hx] at h ⊢
    obtain ⟨h1, h2⟩ := h
    refine ⟨h1, fun t ht => ⟨((h2 t).1 ht).1, Nat.le_trans ((h2 t).1 ht).2 (Nat.le_max_right _ _)⟩, ?_⟩
    unfold lef
    refine List.filter_congr (fun t ht => decide_eq_decide.2 ⟨fun h9 => ?_, fun h9 h8 => ?_⟩)
    · exact Nat.lt_of_not_le (fun h8 => h9 (List.mem_map.2 ⟨t, (h2 t).2 ⟨ht, h8⟩, rfl⟩))
    · obtain ⟨u, hu, e⟩ := List.mem_map.1 h8
      have h7 := (h2 u).1 hu
      have h6 := ho.uni h7.1 ht e
      subst h6
      exact absurd h7.2 (Nat.not_le_of_lt h9)
  · rw [if_neg hx] at h ⊢
    subst h
    exact ⟨List.Pairwise.nil, fun t ht => (by cases ht), lef_nil L⟩
theorem ring_has {N S : Nat} {L D : List Tm} (ho : Ord N S L) (hp : D.Pairwise ltT) (hm : ∀ t, t ∈ D → t ∈ L) {k : Nat} (hk : k < D.length) {n : Nat} {b : Bool} (h : HasIs (lef L (D.take k)) D[k].id n b) : b = true ∧ n = D[k].at_ := by
  have hin : D[k] ∈ lef L (D.take k) := by
    unfold lef
    refine List.mem_filter.2 ⟨hm _ (List.getElem_mem _), ?_⟩
    simp only [decide_eq_true_eq]
    intro h9
    obtain ⟨u, hu, e⟩ := List.mem_map.1 h9
    have h8 := ho.uni (hm u (List.mem_of_mem_take hu)) (hm _ (List.getElem_mem hk)) e
    obtain ⟨i, hi, e2⟩ := List.getElem_of_mem hu
    have hi2 : i < k := by rw [List.length_take] at hi; omega
    rw [List.getElem_take] at e2
    have h7 := (List.pairwise_iff_getElem.1 hp) i k (by omega) hk hi2
    rw [e2, h8] at h7
    exact ltT_irr _ h7
  rcases h with ⟨-, h2⟩ | ⟨h1, u, hu, e, h3⟩
  · exact absurd rfl (h2 _ hin)
  · refine ⟨h1, ?_⟩
    have h9 := ho.uni (List.mem_filter.1 hu).1 (hm _ (List.getElem_mem hk)) e
    rw [← h3, h9]
theorem ring_next {D : List Tm} (hp : D.Pairwise ltT) {k : Nat} (hk : k < D.length) : ∀ y, y ∈ D.drop (k + 1) → D[k].at_ ≤ y.at_ := by
  have h1 := hp.sublist (List.drop_sublist k D)
  rw [List.drop_eq_getElem_cons hk] at h1
  intro y hy
  have h2 := (List.pairwise_cons.1 h1).1 y hy
  unfold ltT at h2
  omega
/-- append of one entry, at a step of a region -/
theorem wp_due {w : World} {o : Oper} {a : Act} {K : Act → World → Prop} {Q : Exit → Act → World → Prop} (s x : Operand) (ho : o.op = .call { callee := .builtin .append, args := #[s, x], argTypes := #[tDus, tDus] }) (B : Nat) (v : Value) (xs : List Tm) (y : Tm) (g : Nat)
    (hs : a.eval s = v) (hown : OwnD w B v xs) (hx : a.eval x = .slice (some ⟨g, 0, none⟩) 1 1) (hg : w.heap[g]? = some (.cells #[.int .i64 y.id, .int .u64 (y.at_ : Int)] tDu (0, 0))) (hb : xs.length + 1 ≤ 4398046511104) (hB : B ≤ w.heap.size)
    (h : ∀ v' w', OwnD w' B v' (xs ++ [y]) → w.grownBy w' v.ownBlock → K (a.put o.dst v') w') : Oper.wp Tryd.prog o a w K Q := by
  obtain ⟨i0, hi, hz0, hz1, hz2⟩ := info_parts infoD
  refine wp_append_lies w s x tDus ho B tDu i0 _ 2 16 Tryd.underlying52 hi hz0 hz1 hz2 rfl (by decide) v xs.length (flatD xs) hs hown ⟨g, 0, none⟩ 1 1 (duv y) hx rfl (World.news_of_block hg) (by intro u hu; simp at hu; rcases hu with rfl | rfl <;> rfl) (by decide) (by simp only [maxLen]; omega) (by omega) hB w.heap.size rfl ?_
  intro g5 cap5 w5 hown5 hg5 _ _
  refine h _ w5 ?_ hg5
  unfold OwnD
  rw [List.length_append, flatD_app, flatD_one]
  exact hown5
/-- the wheel and the statement's book -/
structure On (B : Nat) (w : World) (p m N S : Nat) (L : List Tm) (V : Nat → Nat → Value) (bk : Value) : Prop where
  wt : Wt w p m N S L V
  ft : ∀ b, footW p m V b → B ≤ b
  tab : TabZ w
  book : OwnD w B bk L
  pos : 0 < B
  le : B ≤ w.heap.size
section
variable {B : Nat} {w w' : World} {p m N S : Nat} {L : List Tm} {V : Nat → Nat → Value} {bk : Value}
theorem On.below (h : On B w p m N S L V bk) (hb : Below w.heap.size w w') : On B w' p m N S L V bk := ⟨h.wt.below hb, h.ft, h.tab.below hb, OwnD.below (xs := L) h.book hb, h.pos, Nat.le_trans h.le hb.size⟩
/-- the wheel has changed; the book has not yet -/
theorem On.stp {N' S' : Nat} {L' : List Tm} {V' : Nat → Nat → Value} (h : On B w p m N S L V bk) (hw : Wt w' p m N' S' L' V') (hs : Stp w w' p m V V') : (∀ b, footW p m V' b → B ≤ b) ∧ TabZ w' ∧ OwnD w' B bk L ∧ B ≤ w'.heap.size ∧ Below B w w' := by
  refine ⟨fun b hb => ?_, hs.tab h.wt.z h.tab, book_kept h.wt h.book hs, Nat.le_trans h.le hs.chg.size, hs.chg.below h.ft h.le⟩
  rcases hs.new b hb with h1 | h1
  · exact h.ft b h1
  · exact Nat.le_trans h.le h1
end
set_option maxRecDepth 20000 in
set_option maxHeartbeats 6400000 in
theorem wheelOnce_walk (now : Int) (a : Option Addr) (len cap : Nat) (xs : List Wop) (w : World) (w0 : (Lit.int .u64 now).wf = true) (hx : len = xs.length) (hr : RdW w a xs) (hc : len ≤ 4398046511103) (ht : TabZ w) :
    Calls Tryd.prog 6 #[.int .u64 now, .slice a len cap] w fun e w' => e = .returned (.bool true) ∧ Below w.heap.size w w' := by
  obtain ⟨x0, rfl, -⟩ := u64_of w0
  have HT : Hid _ := ht
  have HX : Hid _ := hx
  have HRD : Hid _ := hr
  have hpos : 0 < w.heap.size := World.block_lt_of_cell? w _ (ht 0 (by decide))
  clear ht w0 hx hr
  obtain ⟨N0, hN0⟩ : ∃ N0, N0 = min x0 mxN := ⟨_, rfl⟩
  have hmn : min (x0 : Int) 281474976710655 = (N0 : Int) := by have h9 : mxN = 281474976710655 := rfl; omega
  have HN0 : Hid _ := hN0
  clear hN0
  go_enter Tryd.func6, Tryd.ntmps6
  go_wp2_with fail
  refine Calls.mono (new_t x0 w hpos) ?_
  rintro e w2 ⟨p, m, V, rfl, h2, hb2, hf2⟩
  rw [← HN0.out] at h2
  have H2 : Hid _ := And.intro h2 hf2
  have HB2 : Hid _ := hb2
  clear h2 hb2 hf2
  go_wp2_with fail
  refine Calls.mono (knows_t w2 (TabZ.below HT.out HB2.out)) ?_
  rintro e w3 ⟨rfl, hb3⟩
  have HB3 : Hid (Below w.heap.size w w3) := below_next HB2.out hb3
  have H3 : Hid _ := Wt.below H2.out.1 hb3
  have HON : Hid (On w.heap.size w3 p m N0 0 [] V (.slice none 0 0)) := ⟨H3.out, H2.out.2, TabZ.below HT.out HB3.out, World.ownsRow_nil _ _ _ _, hpos, HB3.out.size⟩
  clear hb3
  go_wp2_with (first
    | (go_at_call 13; refine Calls.mono (now_t H3.out) ?_; rintro e w' ⟨rfl, hq⟩; have hq := hq.symm; subst hq)
    | (go_at_call 14; refine Calls.mono (len_t H3.out) ?_; rintro e w' ⟨rfl, hq⟩; have hq := hq.symm; subst hq))
  clear hmn
  go_loopw [7, 8] (fun bk i wr => ∃ (j N S : Nat) (L : List Tm) (V : Nat → Nat → Value), j ≤ len ∧ i = .int .i64 (j : Int) ∧ On w.heap.size wr p m N S L V bk ∧ Below w.heap.size w wr ∧ L.length ≤ j ∧ S ≤ j) (fun _ i _ => len - (intOf i).toNat)
  case atStart => exact ⟨0, N0, 0, [], V, Nat.zero_le _, rfl, HON.out, HB3.out, Nat.le_refl _, Nat.le_refl _⟩
  case round =>
    clear H3 HON HB3 H2 HB2 HN0
    obtain ⟨j, N, S, L, V, hj, rfl, hO, hB, hLj, hSj⟩ := hrel
    have HON : Hid _ := hO
    have HB : Hid _ := hB
    clear hO hB
    by_cases hlt : j < len
    · have hj1 : j < xs.length := by rw [← HX.out]; exact hlt
      obtain ⟨b, o, hab, hok, hrg⟩ := HRD.out j hj1
      obtain ⟨t, hT⟩ : ∃ t, t = xs[j] := ⟨_, rfl⟩
      rw [← hT] at hok hrg
      clear hT
      subst hab
      have hk0 := hrg 0 _ rfl
      have hk1 := hrg 1 _ rfl
      have hk2 := hrg 2 _ rfl
      have hk3 := hrg 3 _ rfl
      rw [Nat.add_zero] at hk0
      have hbl : b < w.heap.size := World.block_lt_of_cell? w _ hk0
      have r0 := (HB.out.cell (p := ⟨b, _, none⟩) hbl).trans hk0
      have r1 := (HB.out.cell (p := ⟨b, _, none⟩) hbl).trans hk1
      have r2 := (HB.out.cell (p := ⟨b, _, none⟩) hbl).trans hk2
      have r3 := (HB.out.cell (p := ⟨b, _, none⟩) hbl).trans hk3
      have hbr : b < wr.heap.size := Nat.lt_of_lt_of_le hbl HB.out.size
      obtain ⟨P, hPP⟩ : ∃ P, P = wr.heap.size := ⟨_, rfl⟩
      obtain ⟨w4, hw4⟩ : ∃ w4, w4 = wr.alloc (Obj.cells #[.int .i64 t.on, .int .i64 t.kind, .int .i64 t.id, .int .u64 (t.at_ : Int)] 54) := ⟨_, rfl⟩
      have hA4 : w4.heap[P]? = some (.cells #[.int .i64 t.on, .int .i64 t.kind, .int .i64 t.id, .int .u64 (t.at_ : Int)] 54 (0, 0)) := by rw [hw4, hPP]; exact heap_alloc_new wr _
      have hb4 : Below wr.heap.size wr w4 := by rw [hw4]; exact al (Below.refl _ _) _
      have H4 : Hid _ := On.below HON.out hb4
      have HB4 : Hid (Below w.heap.size w w4) := below_next HB.out hb4
      have hPl : P < w4.heap.size := (Array.getElem?_eq_some_iff.1 hA4).1
      have HPF : Hid (∀ y, footW p m V y → y ≠ P) := fun y hy e => by have := HON.out.wt.lt hy; omega
      have HPW : Hid (w.heap.size ≤ P) := by unfold Hid; rw [hPP]; exact HB.out.size
      have HA4 : Hid _ := hA4
      have HOK : Hid _ := hok
      have hNm : N ≤ 281474976710655 := HON.out.wt.ord.nN
      obtain ⟨e0, e1, e2, e3⟩ := cell4' hA4
      clear hok hrg hk0 hk1 hk2 hk3 hA4 hb4
      go_wp2_with fail
      rw [← hw4]
      rw [← hPP]
      clear hw4 hPP r0 r1 r2 r3
      refine Calls.mono (now_t H4.out.wt) ?_
      rintro e w' ⟨rfl, hq⟩
      have hq := hq.symm
      subst hq
      by_cases hk1 : t.kind = 1
      · skip
        rw [hk1] at e1
        obtain ⟨A, hA⟩ : ∃ A, A = max (min t.at_ mxN) (N + 1) := ⟨_, rfl⟩
        have hA6 : A ≤ 281474976710656 := by have h9 : mxN = 281474976710655 := rfl; omega
        have hz : max (min (t.at_ : Int) 281474976710655) ((N : Int) + 1) = (A : Int) := by rw [hA]; have h9 : mxN = 281474976710655 := rfl; omega
        have HA : Hid _ := hA
        clear hA
        go_wp2_with fail
        refine Calls.mono (set_t H4.out.wt t.id t.at_ HOK.out.2.2.1 (by omega) (by omega)) ?_
        rintro e w6 ⟨rfl, V6, h6, hst6⟩
        obtain ⟨hf6, ht6, hbk6, hle6, hbb6⟩ := H4.out.stp h6 hst6
        have H6 : Hid _ := And.intro h6 (And.intro hf6 ht6)
        have HBK : Hid (∀ u, Below w6.heap.size w6 u → OwnD u w.heap.size u7 L) := fun u hu => OwnD.below (xs := L) hbk6 hu
        have HB6 : Hid (Below w.heap.size w w6) := HB4.out.trans hbb6
        have hP6 : P < w6.heap.size := Nat.lt_of_lt_of_le hPl hst6.chg.size
        obtain ⟨f0, f1, f2, f3⟩ := cell4' ((hst6.chg.block P hPl (fun h9 => HPF.out P h9 rfl)).trans HA4.out)
        obtain ⟨L7, hL7⟩ : ∃ L7, L7 = L.filter (fun t' => decide (t'.id ≠ t.id)) := ⟨_, rfl⟩
        have hl7 : L7.length ≤ j := by rw [hL7]; exact Nat.le_trans (List.length_filter_le _ _) hLj
        have hbd7 : L7.length + 1 ≤ 4398046511104 := by omega
        have HL7 : Hid _ := hL7
        have fa : ∀ o : Obj, (w6.alloc o).cell? ⟨P, 2, none⟩ = some (.int .i64 t.id) := fun o => ((al (Below.refl _ _) o).cell (p := ⟨P, 2, none⟩) hP6).trans f2
        have FA : Hid _ := fa
        clear h6 hst6 hf6 ht6 hbk6 hle6 hbb6 hL7 fa
        go_wp2
        try simp only [hz]
        clear hz
        refine wp_region_noPanic ?_
        refine wp_region_held_drew (S := (fun u => u.cell? ⟨P, 2, none⟩ = some (.int .i64 t.id))) (by kernel_rfl) (by first | exact f2 | exact f7 | exact FA.out _ | exact FA7.out _ | exact f8) (fun hHeld => ?_)
        refine take_at (i := 0) 76 (v := ?_) rfl rfl (by kernel_rfl) (by kernel_rfl) (by kernel_rfl) (fun _ _ _ h => h) (by rfl) ?_ hHeld ?_
        rotate_left
        · (intro w hSw; (try dsimp only at hSw); go_simp; try with_reducible rfl)
        simp only [Act.put, List.setIfInBounds_toArray, List.set_cons_zero, List.set_cons_succ]
        refine take_at (i := 1) 77 (v := ?_) rfl rfl (by kernel_rfl) (by kernel_rfl) (by kernel_rfl) (fun _ _ _ h => h) (by rfl) ?_ hHeld ?_
        rotate_left
        · (intro w hSw; (try dsimp only at hSw); go_simp; try with_reducible rfl)
        simp only [Act.put, List.setIfInBounds_toArray, List.set_cons_zero, List.set_cons_succ]
        refine take_at (i := 2) 78 (v := ?_) rfl rfl (by kernel_rfl) (by kernel_rfl) (by kernel_rfl) (fun _ _ _ h => h) (by rfl) ?_ hHeld ?_
        rotate_left
        · (intro w hSw; (try dsimp only at hSw); go_simp; try with_reducible rfl)
        simp only [Act.put, List.setIfInBounds_toArray, List.set_cons_zero, List.set_cons_succ]
        refine take_at (i := 4) 80 (v := ?_) rfl rfl (by kernel_rfl) (by kernel_rfl) (by kernel_rfl) (fun _ _ _ h => h) (by rfl) ?_ hHeld ?_
        rotate_left
        · (intro w hSw; (try dsimp only at hSw); go_simp; try with_reducible rfl)
        simp only [Act.put, List.setIfInBounds_toArray, List.set_cons_zero, List.set_cons_succ]
        refine take_at (i := 5) 81 (v := ?_) rfl rfl (by kernel_rfl) (by kernel_rfl) (by kernel_rfl) (fun _ _ _ h => h) (by rfl) ?_ hHeld ?_
        rotate_left
        · (intro w hSw; (try dsimp only at hSw); go_simp; try with_reducible rfl)
        simp only [Act.put, List.setIfInBounds_toArray, List.set_cons_zero, List.set_cons_succ]
        refine take_at (i := 6) 82 (v := ?_) rfl rfl (by kernel_rfl) (by kernel_rfl) (by kernel_rfl) (fun _ _ _ h => h) (by rfl) ?_ hHeld ?_
        rotate_left
        · (intro w hSw; (try dsimp only at hSw); go_simp; try with_reducible rfl)
        simp only [Act.put, List.setIfInBounds_toArray, List.set_cons_zero, List.set_cons_succ]
        refine take_at (i := 7) 83 (v := ?_) rfl rfl (by kernel_rfl) (by kernel_rfl) (by kernel_rfl) (fun _ _ _ h => h) (by rfl) ?_ hHeld ?_
        rotate_left
        · (intro w hSw; (try dsimp only at hSw); go_simp; try with_reducible rfl)
        simp only [Act.put, List.setIfInBounds_toArray, List.set_cons_zero, List.set_cons_succ]
        refine wpAnyH_ready (rs := [3, 8]) (by kernel_rfl) (by simp) ?_
        refine AllReadyH.cons (o := _) rfl (fun K hK => ?_) ?_
        focus
          rw [if_pos (by rfl)]
          simp only [List.getElem_toArray, List.getElem_cons_zero, List.getElem_cons_succ]
          go_simp
          first | (go_at_call 20; first | (refine Calls.mono (without_t w.heap.size _ L t.id _ (HBK.out _ (Below.refl _ _).drew) (by omega)) ?_; rintro e w7 ⟨⟨bk7, rfl, h7⟩, hb7⟩; have HB7 : Hid (Below w6.heap.size w6 w7) := below_next (Below.refl _ _).drew hb7; have H7 : Hid (OwnD w7 w6.heap.size bk7 L7) := (by rw [HL7.out]; exact h7); have f7 : w7.cell? ⟨P, 2, none⟩ = some (.int .i64 t.id) := (HB7.out.cell (p := ⟨P, 2, none⟩) hP6).trans f2; have FA7 : Hid (∀ o : Obj, (w7.alloc o).cell? ⟨P, 2, none⟩ = some (.int .i64 t.id)) := (fun o => ((al HB7.out o).cell (p := ⟨P, 2, none⟩) hP6).trans f2); clear h7 hb7) | (refine Calls.mono (without_t w.heap.size _ L t.id _ (HBK.out _ (by first | exact (al (Below.refl _ _).drew _) | exact (al (Below.refl _ _) _).drew)) (by omega)) ?_; rintro e w7 ⟨⟨bk7, rfl, h7⟩, hb7⟩; have HB7 : Hid (Below w6.heap.size w6 w7) := below_next (by first | exact (al (Below.refl _ _).drew _) | exact (al (Below.refl _ _) _).drew) hb7; have H7 : Hid (OwnD w7 w6.heap.size bk7 L7) := (by rw [HL7.out]; exact h7.base (by first | exact (al (Below.refl _ w6).drew _).size | exact (al (Below.refl _ w6) _).drew.size)); have f7 : w7.cell? ⟨P, 2, none⟩ = some (.int .i64 t.id) := (HB7.out.cell (p := ⟨P, 2, none⟩) hP6).trans f2; have hn7 : w7.heap[w6.heap.size]? = some (.cells #[.int .i64 t.id, .int .u64 (A : Int)] tDu (0, 0)) := (hb7.block w6.heap.size (by show w6.heap.size < (w6.alloc _).heap.size; simp)).trans (heap_alloc_new w6 _); have HN7 : Hid _ := hn7; clear h7 hb7 hn7)) | (refine wp_due _ _ (by rfl) w6.heap.size bk7 L7 ⟨t.id, A, S + 1⟩ w7.heap.size (by rfl) (OwnD.below (xs := L7) H7.out (al (Below.refl _ _) _)) (by rfl) (heap_alloc_new w7 _) hbd7 (Nat.le_trans HB7.out.size (al (Below.refl _ _) _).size) ?_; intro v8 w8 hown8 hg8; have H8 : Hid (OwnD w8 w6.heap.size v8 (L7 ++ [⟨t.id, A, S + 1⟩])) := hown8; have HB8 : Hid (Below w6.heap.size w6 w8) := (al HB7.out _).grown hg8 (al HB7.out _).size (fun y e => (World.ownsRow.lt H7.out y e).1); have f8 : w8.cell? ⟨P, 2, none⟩ = some (.int .i64 t.id) := (HB8.out.cell (p := ⟨P, 2, none⟩) hP6).trans f2; clear hown8 hg8) | (refine wp_due _ _ (by rfl) w6.heap.size bk7 L7 ⟨t.id, A, S + 1⟩ w6.heap.size (by rfl) H7.out (by rfl) HN7.out hbd7 HB7.out.size ?_; intro v8 w8 hown8 hg8; have H8 : Hid (OwnD w8 w6.heap.size v8 (L7 ++ [⟨t.id, A, S + 1⟩])) := hown8; have HB8 : Hid (Below w6.heap.size w6 w8) := HB7.out.grown hg8 HB7.out.size (fun y e => (World.ownsRow.lt H7.out y e).1); have f8 : w8.cell? ⟨P, 2, none⟩ = some (.int .i64 t.id) := (HB8.out.cell (p := ⟨P, 2, none⟩) hP6).trans f2; clear hown8 hg8)
          go_wp2_with fail
          refine hK.out _ _ (by first | exact f2 | exact f7 | exact FA.out _ | exact FA7.out _ | exact f8) ?_
          clear hK K
          intro hHeld2
          clear hHeld
          have hHeld := hHeld2
          clear hHeld2
          try simp only [Act.put, List.setIfInBounds_toArray, List.set_cons_zero, List.set_cons_succ]
          refine run_at (i := 8) rfl (by kernel_rfl) (by rfl) (fun K hK => ?_)
          simp only [List.getElem_toArray, List.getElem_cons_zero, List.getElem_cons_succ]
          go_simp
          go_wp2_with fail
          refine hK.out _ _ (by first | exact f2 | exact f7 | exact FA.out _ | exact FA7.out _ | exact f8) ?_
          clear hK K
          intro hHeld2
          clear hHeld
          have hHeld := hHeld2
          clear hHeld2
          try simp only [Act.put, List.setIfInBounds_toArray, List.set_cons_zero, List.set_cons_succ]
          refine run_at (i := 9) rfl (by kernel_rfl) (by rfl) (fun K hK => ?_)
          simp only [List.getElem_toArray, List.getElem_cons_zero, List.getElem_cons_succ]
          first | (go_at_call 20; first | (refine Calls.mono (without_t w.heap.size _ L t.id _ (HBK.out _ (Below.refl _ _).drew) (by omega)) ?_; rintro e w7 ⟨⟨bk7, rfl, h7⟩, hb7⟩; have HB7 : Hid (Below w6.heap.size w6 w7) := below_next (Below.refl _ _).drew hb7; have H7 : Hid (OwnD w7 w6.heap.size bk7 L7) := (by rw [HL7.out]; exact h7); have f7 : w7.cell? ⟨P, 2, none⟩ = some (.int .i64 t.id) := (HB7.out.cell (p := ⟨P, 2, none⟩) hP6).trans f2; have FA7 : Hid (∀ o : Obj, (w7.alloc o).cell? ⟨P, 2, none⟩ = some (.int .i64 t.id)) := (fun o => ((al HB7.out o).cell (p := ⟨P, 2, none⟩) hP6).trans f2); clear h7 hb7) | (refine Calls.mono (without_t w.heap.size _ L t.id _ (HBK.out _ (by first | exact (al (Below.refl _ _).drew _) | exact (al (Below.refl _ _) _).drew)) (by omega)) ?_; rintro e w7 ⟨⟨bk7, rfl, h7⟩, hb7⟩; have HB7 : Hid (Below w6.heap.size w6 w7) := below_next (by first | exact (al (Below.refl _ _).drew _) | exact (al (Below.refl _ _) _).drew) hb7; have H7 : Hid (OwnD w7 w6.heap.size bk7 L7) := (by rw [HL7.out]; exact h7.base (by first | exact (al (Below.refl _ w6).drew _).size | exact (al (Below.refl _ w6) _).drew.size)); have f7 : w7.cell? ⟨P, 2, none⟩ = some (.int .i64 t.id) := (HB7.out.cell (p := ⟨P, 2, none⟩) hP6).trans f2; have hn7 : w7.heap[w6.heap.size]? = some (.cells #[.int .i64 t.id, .int .u64 (A : Int)] tDu (0, 0)) := (hb7.block w6.heap.size (by show w6.heap.size < (w6.alloc _).heap.size; simp)).trans (heap_alloc_new w6 _); have HN7 : Hid _ := hn7; clear h7 hb7 hn7)) | (refine wp_due _ _ (by rfl) w6.heap.size bk7 L7 ⟨t.id, A, S + 1⟩ w7.heap.size (by rfl) (OwnD.below (xs := L7) H7.out (al (Below.refl _ _) _)) (by rfl) (heap_alloc_new w7 _) hbd7 (Nat.le_trans HB7.out.size (al (Below.refl _ _) _).size) ?_; intro v8 w8 hown8 hg8; have H8 : Hid (OwnD w8 w6.heap.size v8 (L7 ++ [⟨t.id, A, S + 1⟩])) := hown8; have HB8 : Hid (Below w6.heap.size w6 w8) := (al HB7.out _).grown hg8 (al HB7.out _).size (fun y e => (World.ownsRow.lt H7.out y e).1); have f8 : w8.cell? ⟨P, 2, none⟩ = some (.int .i64 t.id) := (HB8.out.cell (p := ⟨P, 2, none⟩) hP6).trans f2; clear hown8 hg8) | (refine wp_due _ _ (by rfl) w6.heap.size bk7 L7 ⟨t.id, A, S + 1⟩ w6.heap.size (by rfl) H7.out (by rfl) HN7.out hbd7 HB7.out.size ?_; intro v8 w8 hown8 hg8; have H8 : Hid (OwnD w8 w6.heap.size v8 (L7 ++ [⟨t.id, A, S + 1⟩])) := hown8; have HB8 : Hid (Below w6.heap.size w6 w8) := HB7.out.grown hg8 HB7.out.size (fun y e => (World.ownsRow.lt H7.out y e).1); have f8 : w8.cell? ⟨P, 2, none⟩ = some (.int .i64 t.id) := (HB8.out.cell (p := ⟨P, 2, none⟩) hP6).trans f2; clear hown8 hg8)
          refine hK.out _ _ (by first | exact f2 | exact f7 | exact FA.out _ | exact FA7.out _ | exact f8) ?_
          clear hK K
          intro hHeld2
          clear hHeld
          have hHeld := hHeld2
          clear hHeld2
          try simp only [Act.put, List.setIfInBounds_toArray, List.set_cons_zero, List.set_cons_succ]
          refine take_at (i := 10) 7 (v := ?_) rfl rfl (by kernel_rfl) (by kernel_rfl) (by kernel_rfl) (fun _ _ _ h => h) (by rfl) ?_ hHeld ?_
          rotate_left
          · (intro w hSw; (try dsimp only at hSw); go_simp; try with_reducible rfl)
          simp only [Act.put, List.setIfInBounds_toArray, List.set_cons_zero, List.set_cons_succ]
          refine wpAnyH_done (by kernel_rfl) ?_ _
          refine NoPanic.normal ?_
        rotate_left 1
        refine AllReadyH.cons (o := _) rfl (fun K hK => ?_) AllReadyH.nil
        focus
          rw [if_pos (by rfl)]
          simp only [List.getElem_toArray, List.getElem_cons_zero, List.getElem_cons_succ]
          go_simp
          go_wp2_with fail
          refine hK.out _ _ (by first | exact f2 | exact f7 | exact FA.out _ | exact FA7.out _ | exact f8) ?_
          clear hK K
          intro hHeld2
          clear hHeld
          have hHeld := hHeld2
          clear hHeld2
          try simp only [Act.put, List.setIfInBounds_toArray, List.set_cons_zero, List.set_cons_succ]
          refine run_at (i := 3) rfl (by kernel_rfl) (by rfl) (fun K hK => ?_)
          simp only [List.getElem_toArray, List.getElem_cons_zero, List.getElem_cons_succ]
          go_simp
          first | (go_at_call 20; first | (refine Calls.mono (without_t w.heap.size _ L t.id _ (HBK.out _ (Below.refl _ _).drew) (by omega)) ?_; rintro e w7 ⟨⟨bk7, rfl, h7⟩, hb7⟩; have HB7 : Hid (Below w6.heap.size w6 w7) := below_next (Below.refl _ _).drew hb7; have H7 : Hid (OwnD w7 w6.heap.size bk7 L7) := (by rw [HL7.out]; exact h7); have f7 : w7.cell? ⟨P, 2, none⟩ = some (.int .i64 t.id) := (HB7.out.cell (p := ⟨P, 2, none⟩) hP6).trans f2; have FA7 : Hid (∀ o : Obj, (w7.alloc o).cell? ⟨P, 2, none⟩ = some (.int .i64 t.id)) := (fun o => ((al HB7.out o).cell (p := ⟨P, 2, none⟩) hP6).trans f2); clear h7 hb7) | (refine Calls.mono (without_t w.heap.size _ L t.id _ (HBK.out _ (by first | exact (al (Below.refl _ _).drew _) | exact (al (Below.refl _ _) _).drew)) (by omega)) ?_; rintro e w7 ⟨⟨bk7, rfl, h7⟩, hb7⟩; have HB7 : Hid (Below w6.heap.size w6 w7) := below_next (by first | exact (al (Below.refl _ _).drew _) | exact (al (Below.refl _ _) _).drew) hb7; have H7 : Hid (OwnD w7 w6.heap.size bk7 L7) := (by rw [HL7.out]; exact h7.base (by first | exact (al (Below.refl _ w6).drew _).size | exact (al (Below.refl _ w6) _).drew.size)); have f7 : w7.cell? ⟨P, 2, none⟩ = some (.int .i64 t.id) := (HB7.out.cell (p := ⟨P, 2, none⟩) hP6).trans f2; have hn7 : w7.heap[w6.heap.size]? = some (.cells #[.int .i64 t.id, .int .u64 (A : Int)] tDu (0, 0)) := (hb7.block w6.heap.size (by show w6.heap.size < (w6.alloc _).heap.size; simp)).trans (heap_alloc_new w6 _); have HN7 : Hid _ := hn7; clear h7 hb7 hn7)) | (refine wp_due _ _ (by rfl) w6.heap.size bk7 L7 ⟨t.id, A, S + 1⟩ w7.heap.size (by rfl) (OwnD.below (xs := L7) H7.out (al (Below.refl _ _) _)) (by rfl) (heap_alloc_new w7 _) hbd7 (Nat.le_trans HB7.out.size (al (Below.refl _ _) _).size) ?_; intro v8 w8 hown8 hg8; have H8 : Hid (OwnD w8 w6.heap.size v8 (L7 ++ [⟨t.id, A, S + 1⟩])) := hown8; have HB8 : Hid (Below w6.heap.size w6 w8) := (al HB7.out _).grown hg8 (al HB7.out _).size (fun y e => (World.ownsRow.lt H7.out y e).1); have f8 : w8.cell? ⟨P, 2, none⟩ = some (.int .i64 t.id) := (HB8.out.cell (p := ⟨P, 2, none⟩) hP6).trans f2; clear hown8 hg8) | (refine wp_due _ _ (by rfl) w6.heap.size bk7 L7 ⟨t.id, A, S + 1⟩ w6.heap.size (by rfl) H7.out (by rfl) HN7.out hbd7 HB7.out.size ?_; intro v8 w8 hown8 hg8; have H8 : Hid (OwnD w8 w6.heap.size v8 (L7 ++ [⟨t.id, A, S + 1⟩])) := hown8; have HB8 : Hid (Below w6.heap.size w6 w8) := HB7.out.grown hg8 HB7.out.size (fun y e => (World.ownsRow.lt H7.out y e).1); have f8 : w8.cell? ⟨P, 2, none⟩ = some (.int .i64 t.id) := (HB8.out.cell (p := ⟨P, 2, none⟩) hP6).trans f2; clear hown8 hg8)
          go_wp2_with fail
          refine hK.out _ _ (by first | exact f2 | exact f7 | exact FA.out _ | exact FA7.out _ | exact f8) ?_
          clear hK K
          intro hHeld2
          clear hHeld
          have hHeld := hHeld2
          clear hHeld2
          try simp only [Act.put, List.setIfInBounds_toArray, List.set_cons_zero, List.set_cons_succ]
          refine run_at (i := 9) rfl (by kernel_rfl) (by rfl) (fun K hK => ?_)
          simp only [List.getElem_toArray, List.getElem_cons_zero, List.getElem_cons_succ]
          first | (go_at_call 20; first | (refine Calls.mono (without_t w.heap.size _ L t.id _ (HBK.out _ (Below.refl _ _).drew) (by omega)) ?_; rintro e w7 ⟨⟨bk7, rfl, h7⟩, hb7⟩; have HB7 : Hid (Below w6.heap.size w6 w7) := below_next (Below.refl _ _).drew hb7; have H7 : Hid (OwnD w7 w6.heap.size bk7 L7) := (by rw [HL7.out]; exact h7); have f7 : w7.cell? ⟨P, 2, none⟩ = some (.int .i64 t.id) := (HB7.out.cell (p := ⟨P, 2, none⟩) hP6).trans f2; have FA7 : Hid (∀ o : Obj, (w7.alloc o).cell? ⟨P, 2, none⟩ = some (.int .i64 t.id)) := (fun o => ((al HB7.out o).cell (p := ⟨P, 2, none⟩) hP6).trans f2); clear h7 hb7) | (refine Calls.mono (without_t w.heap.size _ L t.id _ (HBK.out _ (by first | exact (al (Below.refl _ _).drew _) | exact (al (Below.refl _ _) _).drew)) (by omega)) ?_; rintro e w7 ⟨⟨bk7, rfl, h7⟩, hb7⟩; have HB7 : Hid (Below w6.heap.size w6 w7) := below_next (by first | exact (al (Below.refl _ _).drew _) | exact (al (Below.refl _ _) _).drew) hb7; have H7 : Hid (OwnD w7 w6.heap.size bk7 L7) := (by rw [HL7.out]; exact h7.base (by first | exact (al (Below.refl _ w6).drew _).size | exact (al (Below.refl _ w6) _).drew.size)); have f7 : w7.cell? ⟨P, 2, none⟩ = some (.int .i64 t.id) := (HB7.out.cell (p := ⟨P, 2, none⟩) hP6).trans f2; have hn7 : w7.heap[w6.heap.size]? = some (.cells #[.int .i64 t.id, .int .u64 (A : Int)] tDu (0, 0)) := (hb7.block w6.heap.size (by show w6.heap.size < (w6.alloc _).heap.size; simp)).trans (heap_alloc_new w6 _); have HN7 : Hid _ := hn7; clear h7 hb7 hn7)) | (refine wp_due _ _ (by rfl) w6.heap.size bk7 L7 ⟨t.id, A, S + 1⟩ w7.heap.size (by rfl) (OwnD.below (xs := L7) H7.out (al (Below.refl _ _) _)) (by rfl) (heap_alloc_new w7 _) hbd7 (Nat.le_trans HB7.out.size (al (Below.refl _ _) _).size) ?_; intro v8 w8 hown8 hg8; have H8 : Hid (OwnD w8 w6.heap.size v8 (L7 ++ [⟨t.id, A, S + 1⟩])) := hown8; have HB8 : Hid (Below w6.heap.size w6 w8) := (al HB7.out _).grown hg8 (al HB7.out _).size (fun y e => (World.ownsRow.lt H7.out y e).1); have f8 : w8.cell? ⟨P, 2, none⟩ = some (.int .i64 t.id) := (HB8.out.cell (p := ⟨P, 2, none⟩) hP6).trans f2; clear hown8 hg8) | (refine wp_due _ _ (by rfl) w6.heap.size bk7 L7 ⟨t.id, A, S + 1⟩ w6.heap.size (by rfl) H7.out (by rfl) HN7.out hbd7 HB7.out.size ?_; intro v8 w8 hown8 hg8; have H8 : Hid (OwnD w8 w6.heap.size v8 (L7 ++ [⟨t.id, A, S + 1⟩])) := hown8; have HB8 : Hid (Below w6.heap.size w6 w8) := HB7.out.grown hg8 HB7.out.size (fun y e => (World.ownsRow.lt H7.out y e).1); have f8 : w8.cell? ⟨P, 2, none⟩ = some (.int .i64 t.id) := (HB8.out.cell (p := ⟨P, 2, none⟩) hP6).trans f2; clear hown8 hg8)
          refine hK.out _ _ (by first | exact f2 | exact f7 | exact FA.out _ | exact FA7.out _ | exact f8) ?_
          clear hK K
          intro hHeld2
          clear hHeld
          have hHeld := hHeld2
          clear hHeld2
          try simp only [Act.put, List.setIfInBounds_toArray, List.set_cons_zero, List.set_cons_succ]
          refine take_at (i := 10) 7 (v := ?_) rfl rfl (by kernel_rfl) (by kernel_rfl) (by kernel_rfl) (fun _ _ _ h => h) (by rfl) ?_ hHeld ?_
          rotate_left
          · (intro w hSw; (try dsimp only at hSw); go_simp; try with_reducible rfl)
          simp only [Act.put, List.setIfInBounds_toArray, List.set_cons_zero, List.set_cons_succ]
          refine wpAnyH_done (by kernel_rfl) ?_ _
          refine NoPanic.normal ?_
        all_goals
          have hw8 : On w.heap.size w8 p m N (S + 1) (setL L N S t.id t.at_) V6 v8 := ⟨Wt.below H6.out.1 HB8.out, H6.out.2.1, TabZ.below H6.out.2.2 HB8.out, (by unfold setL; rw [← HL7.out, ← HA.out]; exact H8.out.base HB6.out.size), hpos, Nat.le_trans HB6.out.size HB8.out.size⟩
          have HB9 : Hid (Below w.heap.size w w8) := below_next HB6.out HB8.out
          obtain ⟨a9, c9, hv9, -⟩ := hw8.book.val
          have hl9 : (setL L N S t.id t.at_).length ≤ j + 1 := Nat.le_trans (setL_len _ _ _ _ _) (Nat.succ_le_succ hLj)
          obtain ⟨n9, hn9⟩ : ∃ n9, n9 = (setL L N S t.id t.at_).length := ⟨_, rfl⟩
          rw [← hn9] at hv9 hl9
          subst hv9
          have HN9 : Hid _ := hn9
          have H9 : Hid _ := hw8
          clear hn9 hw8
          go_wp2_with (go_at_call 14; refine Calls.mono (len_t H9.out.wt) ?_; rintro e w' ⟨rfl, hq⟩; have hq := hq.symm; subst hq; rw [← HN9.out])
          go_roundw
          case rel => exact ⟨j + 1, N, S + 1, _, V6, hlt, by go_num, H9.out, HB9.out, by rw [← HN9.out]; exact hl9, by omega⟩
          case measure => simp [intOf]; omega
      · have hk1b : (t.kind == 1) = false := by simp [hk1]
        by_cases hk2 : t.kind = 2
        · rw [hk2] at e1
          go_wp2_with fail
          refine Calls.mono (has_t w.heap.size _ L t.id w4 H4.out.book (by omega)) ?_
          rintro e w' ⟨⟨n5, b5, rfl, h5⟩, hq⟩
          have hq := hq.symm
          subst hq
          have hb5 : b5 = decide (t.id ∈ L.map Tm.id) := by
            rcases h5 with ⟨rfl, h9⟩ | ⟨rfl, u, h9, h8, -⟩
            · symm
              simp only [decide_eq_false_iff_not]
              intro h7
              obtain ⟨u, h6, h5⟩ := List.mem_map.1 h7
              exact h9 u h6 h5
            · symm
              simp only [decide_eq_true_eq]
              exact List.mem_map.2 ⟨u, h9, h8⟩
          have HB5 : Hid _ := hb5
          clear h5 hb5
          go_wp2_with fail
          refine Calls.mono (stop_t H4.out.wt t.id HOK.out.2.2.1 (by omega)) ?_
          rintro e w6 ⟨rfl, V6, h6, hst6⟩
          rw [← HB5.out]
          obtain ⟨hf6, ht6, hbk6, hle6, hbb6⟩ := H4.out.stp h6 hst6
          have H6 : Hid _ := And.intro h6 (And.intro hf6 (And.intro ht6 hbk6))
          have HB6 : Hid (Below w.heap.size w w6) := HB4.out.trans hbb6
          obtain ⟨f0, f1, f2, f3⟩ := cell4' ((hst6.chg.block P hPl (fun h9 => HPF.out P h9 rfl)).trans HA4.out)
          clear h6 hst6 hf6 ht6 hbk6 hle6 hbb6
          go_wp2_with fail
          refine Calls.mono (without_t w.heap.size _ L t.id w6 H6.out.2.2.2 (by omega)) ?_
          rintro e w7 ⟨⟨bk7, rfl, h7⟩, hb7⟩
          have HB7 : Hid (Below w.heap.size w w7) := below_next HB6.out hb7
          have H7 : Hid (On w.heap.size w7 p m N S (L.filter (fun t' => decide (t'.id ≠ t.id))) V6 bk7) := ⟨H6.out.1.below hb7, H6.out.2.1, TabZ.below H6.out.2.2.1 hb7, h7.base HB6.out.size, hpos, HB7.out.size⟩
          obtain ⟨a7, c7, hv7, -⟩ := h7.val
          obtain ⟨L7, hL7⟩ : ∃ L7, L7 = L.filter (fun t' => decide (t'.id ≠ t.id)) := ⟨_, rfl⟩
          have hl7 : L7.length ≤ j := by rw [hL7]; exact Nat.le_trans (List.length_filter_le _ _) hLj
          rw [← hL7] at hv7 H7
          obtain ⟨n7, hn7⟩ : ∃ n7, n7 = L7.length := ⟨_, rfl⟩
          rw [← hn7] at hv7 hl7
          subst hv7
          have HN7 : Hid _ := hn7
          clear h7 hb7 hL7 hn7
          go_wp2_with (go_at_call 14; refine Calls.mono (len_t H7.out.wt) ?_; rintro e w' ⟨rfl, hq⟩; have hq := hq.symm; subst hq; rw [← HN7.out])
          go_roundw
          case rel => exact ⟨j + 1, N, S, L7, V6, hlt, by go_num, H7.out, HB7.out, by rw [← HN7.out]; omega, by omega⟩
          case measure => simp [intOf]; omega
        · have hk2b : (t.kind == 2) = false := by simp [hk2]
          by_cases hk3 : t.kind = 3
          · skip
            rw [hk3] at e1
            obtain ⟨N', hN'⟩ : ∃ N', N' = max N (min t.at_ mxN) := ⟨_, rfl⟩
            have hz : max (N : Int) (min (t.at_ : Int) 281474976710655) = (N' : Int) := by rw [hN']; have h9 : mxN = 281474976710655 := rfl; omega
            have HN' : Hid _ := hN'
            have HZZ : Hid _ := hz
            clear hN' hz
            go_wp2_with fail
            refine Calls.mono (both_adv H4.out.wt t.at_ (by omega) H4.out.tab) ?_
            rintro e w6 ⟨z6, D, V6, rfl, hD6, hz6, h6, hst6⟩
            rw [← HN'.out] at h6
            obtain ⟨hf6, ht6, hbk6, hle6, hbb6⟩ := H4.out.stp h6 hst6
            obtain ⟨hDp, hDm, hDl⟩ := ring_in H4.out.wt.ord hD6
            rw [← HN'.out] at hDm
            have H6 : Hid _ := And.intro h6 (And.intro hf6 ht6)
            have HBK : Hid (OwnD w6 w.heap.size u7 L) := hbk6
            have HB6 : Hid (Below w.heap.size w w6) := HB4.out.trans hbb6
            have HORD : Hid _ := H4.out.wt.ord
            have HDP : Hid _ := hDp
            have HDM : Hid _ := hDm
            have HDL : Hid _ := hDl
            have HA6 : Hid _ := (hst6.chg.block P hPl (fun h9 => HPF.out P h9 rfl)).trans HA4.out
            obtain ⟨az, cz, hvz, hcz⟩ := OwnZ.rd hz6
            obtain ⟨n, hn⟩ : ∃ n, n = D.length := ⟨_, rfl⟩
            rw [List.length_map, ← hn] at hvz
            subst hvz
            have HZ6 : Hid (∀ k (hk : k < D.length), ∃ b o, az = some ⟨b, o, none⟩ ∧ b < w6.heap.size ∧ w6.cell? ⟨b, o + k, none⟩ = some (.int .i64 D[k].id)) := fun k hk => by
              obtain ⟨b1, o1, h8, h9⟩ := hcz k (by rw [List.length_map]; exact hk)
              refine ⟨b1, o1, h8, World.block_lt_of_cell? w6 _ h9, ?_⟩
              rw [h9, List.getElem_map]
            have HND : Hid _ := hn
            have hnl : n ≤ 9223372036854775807 := by have h9 := OwnZ.len hz6; rw [List.length_map] at h9; omega
            clear h6 hst6 hf6 ht6 hbk6 hle6 hbb6 hDp hDm hDl hD6 hz6 hcz hn e0 e1 e2 e3
            go_wp2
            go_loopw [7, 15, 16] (fun bk la i ws => ∃ (k l0 : Nat), k ≤ n ∧ i = .int .i64 (k : Int) ∧ la = .int .u64 (l0 : Int) ∧ (∀ y, y ∈ D.drop k → l0 ≤ y.at_) ∧ OwnD ws w.heap.size bk (lef L (D.take k)) ∧ Below w6.heap.size w6 ws) (fun _ _ i _ => n - (intOf i).toNat)
            case atStart => exact ⟨0, 0, Nat.zero_le _, rfl, rfl, fun _ _ => Nat.zero_le _, by rw [List.take_zero, lef_nil]; exact HBK.out, Below.refl _ _⟩
            case round =>
              obtain ⟨k, l0, hk, rfl, rfl, hl0, hbk, hb⟩ := hrel
              have HL0 : Hid _ := hl0
              have HK : Hid _ := hbk
              have HBS : Hid _ := hb
              clear hl0 hbk hb
              by_cases hlt2 : k < n
              · have hk1' : k < D.length := by rw [← HND.out]; exact hlt2
                obtain ⟨b1, o1, rfl, hbl1, hc1⟩ := HZ6.out k hk1'
                obtain ⟨y, hy⟩ : ∃ y, y = D[k] := ⟨_, rfl⟩
                have hyD : y ∈ D := by rw [hy]; exact List.getElem_mem _
                have hyN := (HDM.out y hyD).2
                have hyl : l0 ≤ y.at_ := HL0.out y (by rw [List.drop_eq_getElem_cons hk1', hy]; exact List.mem_cons_self)
                have hg1 : ¬ (N' : Int) < (y.at_ : Int) := by omega
                have hg2 : ¬ (y.at_ : Int) < (l0 : Int) := by omega
                have hgb : b1 < wr.heap.size := Nat.lt_of_lt_of_le hbl1 HBS.out.size
                have c1 : wr.cell? ⟨b1, o1 + k, none⟩ = some (.int .i64 y.id) := by rw [hy]; exact (HBS.out.cell (p := ⟨b1, _, none⟩) hbl1).trans hc1
                have HNX : Hid (∀ y', y' ∈ D.drop (k + 1) → y.at_ ≤ y'.at_) := by unfold Hid; rw [hy]; exact ring_next HDP.out hk1'
                have HLE : Hid ((lef L (D.take k)).filter (fun u => decide (u.id ≠ y.id)) = lef L (D.take (k + 1))) := by unfold Hid; rw [lef_step, List.take_succ_eq_append_getElem hk1', ← hy]
                have HHS : Hid (∀ (n5 : Nat) (b5 : Bool), HasIs (lef L (D.take k)) y.id n5 b5 → b5 = true ∧ n5 = y.at_) := fun n5 b5 h9 => by rw [hy] at h9 ⊢; exact ring_has HORD.out HDP.out (fun t' h' => (HDM.out t' h').1) hk1' h9
                have hlb : (lef L (D.take k)).length ≤ 4398046511104 := Nat.le_trans (List.length_filter_le _ _) (by omega)
                have HWS : Hid _ := Wt.below H6.out.1 HBS.out
                clear hc1 hy hyD hyN hyl
                go_wp2_with fail
                refine Calls.mono (has_t w.heap.size _ (lef L (D.take k)) y.id wr HK.out hlb) ?_
                rintro e w' ⟨⟨n5, b5, rfl, h5⟩, hq⟩
                have hq := hq.symm
                subst hq
                obtain ⟨rfl, rfl⟩ := HHS.out n5 b5 h5
                clear h5
                go_wp2_with (go_at_call 13; refine Calls.mono (now_t HWS.out) ?_; rintro e w' ⟨rfl, hq⟩; have hq := hq.symm; subst hq)
                refine Calls.mono (without_t w.heap.size _ (lef L (D.take k)) y.id wr HK.out hlb) ?_
                rintro e w7 ⟨⟨bk7, rfl, h7⟩, hb7⟩
                rw [HLE.out] at h7
                have H7 : Hid (OwnD w7 w.heap.size bk7 (lef L (D.take (k + 1)))) := h7.base (Nat.le_trans HB6.out.size HBS.out.size)
                have HB7 : Hid (Below w6.heap.size w6 w7) := below_next HBS.out hb7
                clear h7 hb7 c1
                go_wp2
                go_roundw
                case rel => exact ⟨k + 1, y.at_, hlt2, by go_num, rfl, HNX.out, H7.out, HB7.out⟩
                case measure => simp [intOf]; omega
              · have hkn : k = n := by omega
                obtain ⟨E, hE⟩ : ∃ E, E = advL L N t.at_ := ⟨_, rfl⟩
                have hDn : D.take k = D := by rw [hkn, HND.out]; exact List.take_length
                have H7 : Hid (On w.heap.size wr p m N' S E V6 u7) := ⟨by rw [hE]; exact Wt.below H6.out.1 HBS.out, H6.out.2.1, TabZ.below H6.out.2.2 HBS.out, by rw [hE, ← HDL.out, ← hDn]; exact HK.out, hpos, Nat.le_trans HB6.out.size HBS.out.size⟩
                have HB7 : Hid (Below w.heap.size w wr) := below_next HB6.out HBS.out
                have hEl : E.length ≤ j := by rw [hE]; exact Nat.le_trans (advL_len _ _ _) hLj
                have h3 : wr.cell? ⟨P, 3, none⟩ = some (.int .u64 (t.at_ : Int)) := (cell4' ((HBS.out.block P (Array.getElem?_eq_some_iff.1 HA6.out).1).trans HA6.out)).2.2.2
                obtain ⟨a7, c7, hv7, -⟩ := H7.out.book.val
                obtain ⟨n7, hn7⟩ : ∃ n7, n7 = E.length := ⟨_, rfl⟩
                rw [← hn7] at hv7 hEl
                subst hv7
                have HN7 : Hid _ := hn7
                clear hE hDn hn7 HDL HDP HDM HK HL0 HZ6 HND H6 HB6 HBS HBK
                go_wp2
                clear hkn hlt2
                obtain ⟨wz, hwz⟩ : ∃ wz, wz = wr := ⟨_, rfl⟩
                rw [← hwz] at H7 HB7 h3
                have HWZ : Hid _ := hwz
                rw [← hwz]
                clear hwz
                go_loopw [19] (fun i wt => ∃ q : Nat, q ≤ n7 ∧ i = .int .i64 (q : Int) ∧ Below wz.heap.size wz wt) (fun i _ => n7 - (intOf i).toNat)
                case atStart => exact ⟨0, Nat.zero_le _, rfl, Below.refl _ _⟩
                case round =>
                  obtain ⟨q, hq7, rfl, hd⟩ := hrel
                  have H8 : Hid _ := H7.out.below hd
                  have HB8 : Hid (Below w.heap.size w wr) := below_next HB7.out hd
                  have h8 : wr.cell? ⟨P, 3, none⟩ = some (.int .u64 (t.at_ : Int)) := (hd.cell (p := ⟨P, 3, none⟩) (World.block_lt_of_cell? wz _ h3)).trans h3
                  have HD8 : Hid _ := hd
                  clear hd h3
                  have HNW : Hid (∀ u : World, Drw wr u → Calls Tryd.prog 13 #[.pointer (some ⟨p, 0, none⟩)] u fun e w' => e = .returned (.int .u64 (N' : Int)) ∧ w' = u) := fun u hu => now_t (Wt.below H8.out.wt (hu.below _))
                  by_cases hlt3 : q < n7
                  · have hq1 : q < E.length := by rw [← HN7.out]; exact hlt3
                    obtain ⟨g, cc, hv⟩ := OwnD.one (xs := E) H8.out.book (fun e => by rw [e] at hq1; cases hq1)
                    obtain ⟨rfl, -, rfl⟩ := Value.slice.inj hv
                    obtain ⟨c0, c1⟩ := OwnD.cells2 (xs := E) H8.out.book HN7.out q hq1
                    have hgl := OwnD.lt (xs := E) H8.out.book
                    have hye := (H8.out.wt.ord.ats E[q] (List.getElem_mem _)).1
                    obtain ⟨y, hy⟩ : ∃ y, y = E[q] := ⟨_, rfl⟩
                    rw [← hy] at c0 c1 hye
                    have hye2 : ¬ (y.at_ : Int) ≤ (N' : Int) := by omega
                    clear hy hv
                    go_wp2
                    go_quiet ((go_at_call 13; exact Calls.quiet_of_same (HNW.out _ ⟨_, rfl⟩)))
                    go_wp2
                    go_roundw
                    case rel => exact ⟨q + 1, hlt3, by go_num, below_next HD8.out (Drw.below ⟨_, rfl⟩ _)⟩
                    case measure => simp [intOf]; omega
                  · have hqn : q = n7 := by omega
                    have HLN : Hid (∀ u : World, Drw wr u → Calls Tryd.prog 14 #[.pointer (some ⟨p, 0, none⟩)] u fun e w' => e = .returned (.int .i64 (n7 : Int)) ∧ w' = u) := fun u hu => by
                      rw [HN7.out]
                      exact len_t (Wt.below H8.out.wt (hu.below _))
                    go_wp2
                    clear hqn hlt3
                    go_quiet ((go_at_call 13; exact Calls.quiet_of_same (HNW.out _ ⟨_, rfl⟩)))
                    simp only [HZZ.out]
                    go_wp2_with (go_at_call 14; refine Calls.mono (HLN.out _ ⟨_, rfl⟩) ?_; rintro e w' ⟨rfl, hq⟩; have hq := hq.symm; subst hq)
                    go_roundw
                    case rel => exact ⟨j + 1, N', S, E, V6, hlt, by go_num, H8.out.below (Drw.below ⟨_, rfl⟩ _), below_next HB8.out (Drw.below ⟨_, rfl⟩ _), by rw [← HN7.out]; omega, by omega⟩
                    case measure => simp [intOf]; omega
          · have hk3b : (t.kind == 3) = false := by simp [hk3]
            obtain ⟨a7, c7, hv7, -⟩ := OwnD.val (xs := L) H4.out.book
            obtain ⟨n7, hn7⟩ : ∃ n7, n7 = L.length := ⟨_, rfl⟩
            rw [← hn7] at hv7
            subst hv7
            have HN7 : Hid _ := hn7
            clear hn7
            go_wp2_with (go_at_call 14; refine Calls.mono (len_t H4.out.wt) ?_; rintro e w' ⟨rfl, hq⟩; have hq := hq.symm; subst hq; rw [← HN7.out])
            go_roundw
            case rel => exact ⟨j + 1, N, S, L, V, hlt, by go_num, H4.out, HB4.out, by omega, by omega⟩
            case measure => simp [intOf]; omega
    · have hjn : j = len := by omega
      clear hLj hSj
      go_wp2
      go_ret
      exact ⟨rfl, HB.out⟩
end Go.Proofs.YtnfikcegmicooaaDoor
