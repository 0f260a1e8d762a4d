import Derived.Test.YtnpcgegcoakbmaaDoorOE1
namespace Go.Proofs.YtnpcgegcoakbmaaDoor
set_option linter.unusedVariables false
set_option linter.unusedSimpArgs false
open Go.RowKit
section
variable {w w' : World} {p R : Nat} {v : Value} {E : List Dc} {L : List Dgm} {B : Nat} {X : Nat → Prop}
set_option maxRecDepth 20000 in
set_option maxHeartbeats 3200000 in
theorem take_x (h : Wy SP w p R v E L) (i : Int) (hin : 0 ≤ i ∧ i < (L.length : Int)) :
    Calls Tryd.prog 8 #[.pointer (some ⟨p, 0, none⟩), .int .i64 i] w fun e w' => ∃ u, e = .returned (.tuple #[u, .int .i64 (plE L i)]) ∧ Own w' w.heap.size u (lookX L i) ∧ ∃ v' E', Wy SP w' p R v' E' (dropL L i) ∧ WSt w w' p v E v' E' ∧ ∀ b, u.ownBlock = some b → ¬ footY p v' E' b := by
  have H : Hid _ := look_t h i
  have HW : Hid _ := h
  have HE : Hid (plE L i = 0) := by unfold Hid plE; rw [if_pos hin]
  clear h hin
  go_enter Tryd.func8, Tryd.ntmps8
  go_wp2_with (first | (go_at_call 7; refine Calls.mono H.out ?_; rintro e w1 ⟨u, rfl, hown1, hb1⟩; rw [HE.out]; have HO1 : Hid _ := hown1; have HB1 : Hid _ := hb1; clear hown1 hb1) | (go_at_call 11; refine Calls.mono (drop_t (HW.out.below HB1.out) i) ?_; rintro e w2 ⟨rfl, v2, E2, h2, hst2⟩; rw [HE.out]; have H2 : Hid _ := h2; have HST2 : Hid _ := hst2; clear h2 hst2))
  go_ret2
  rw [HE.out]
  refine ⟨u, rfl, ?_, v2, E2, H2.out, (WSt.below HB1.out p v E).trans HST2.out, fun b e hf => ?_⟩
  · refine Own.keptb HO1.out (fun b e => ?_)
    have h9 := World.ownsRow.lt HO1.out b e
    refine HST2.out.chg.block b h9.2 (fun hf => ?_)
    have h7 : b < w.heap.size := HW.out.lt (hf.elim .inl (fun e => .inr (.inl e)))
    omega
  · have h9 := World.ownsRow.lt HO1.out b e
    rcases HST2.out.new b hf with h8 | h8
    · have h7 : b < w.heap.size := HW.out.lt h8
      omega
    · omega
theorem oTakeX (h : On SP B X w p R L) (hX : ∀ b, X b → b < w.heap.size) (hB : B ≤ w.heap.size) (i : Int) (hin : 0 ≤ i ∧ i < (L.length : Int)) :
    Calls Tryd.prog 8 #[.pointer (some ⟨p, 0, none⟩), .int .i64 i] w fun e w' => ∃ u, e = .returned (.tuple #[u, .int .i64 (plE L i)]) ∧ Own w' w.heap.size u (lookX L i) ∧ On SP B (fun b => X b ∨ u.ownBlock = some b) w' p R (dropL L i) ∧ Fr SP B w w' := by
  obtain ⟨v, E, h1, hf⟩ := h
  refine Calls.mono (take_x h1 i hin) ?_
  rintro e w' ⟨u, rfl, ho, v', E', h2, st, hnf⟩
  obtain ⟨-, hfr⟩ := On.after h1 hf hX hB h2 st
  refine ⟨u, rfl, ho, ⟨v', E', h2, fun b hb => ?_⟩, hfr⟩
  rcases st.new b hb with h3 | h3
  · exact ⟨(hf b h3).1, fun hx => hx.elim (hf b h3).2 (fun e => hnf b e hb)⟩
  · exact ⟨by omega, fun hx => hx.elim (fun h4 => by have := hX b h4; omega) (fun e => hnf b e hb)⟩
end
section
variable {w0 w w' : World} {p : Nat} {vl : Value} {V : List Dc} {T : List (List UInt8)} {L : List Dgm}
theorem Fml.push2 {B : Nat} (h : Fml w B V T) {d : Dc} {t : List UInt8} (ho : Own w B d.v t) (hx : ∀ b, d.v.ownBlock = some b → ¬ XV V b) : Fml w B (V ++ [d]) (T ++ [t]) := by
  refine ⟨by rw [List.length_append, List.length_append, h.len]; rfl, fun i e s he hs => ?_, fun i j e f b he hf hne h1 h2 => ?_⟩
  · rw [List.getElem?_append] at he hs
    rw [h.len] at he
    by_cases hi : i < T.length
    · rw [if_pos hi] at he hs
      exact h.own i e s he hs
    · rw [if_neg hi] at he hs
      have h0 : i - T.length = 0 := by
        have := (List.getElem?_eq_some_iff.1 hs).1
        simp at this
        exact this
      rw [h0] at he hs
      simp at he hs
      subst he hs
      exact ho
  · rw [List.getElem?_append] at he hf
    by_cases hi : i < V.length
    · rw [if_pos hi] at he
      by_cases hj : j < V.length
      · rw [if_pos hj] at hf
        exact h.ap i j e f b he hf hne h1 h2
      · rw [if_neg hj] at hf
        have h0 : j - V.length = 0 := by
          have := (List.getElem?_eq_some_iff.1 hf).1
          simp at this
          exact this
        rw [h0] at hf
        simp at hf
        subst hf
        exact hx b h2 ⟨i, e, he, h1⟩
    · rw [if_neg hi] at he
      have h0 : i - V.length = 0 := by
        have := (List.getElem?_eq_some_iff.1 he).1
        simp at this
        exact this
      rw [h0] at he
      simp at he
      subst he
      by_cases hj : j < V.length
      · rw [if_pos hj] at hf
        exact hx b h1 ⟨j, f, hf, h2⟩
      · rw [if_neg hj] at hf
        have h3 := (List.getElem?_eq_some_iff.1 hf).1
        simp at h3
        omega
theorem XV.snoc {V : List Dc} {d : Dc} {b : Nat} (hx : XV (V ++ [d]) b) : XV V b ∨ d.v.ownBlock = some b := by
  obtain ⟨i, e, he, hbk⟩ := hx
  rw [List.getElem?_append] at he
  by_cases hi : i < V.length
  · rw [if_pos hi] at he; exact .inl ⟨i, e, he, hbk⟩
  · rw [if_neg hi] at he
    have h0 : i - V.length = 0 := by
      have := (List.getElem?_eq_some_iff.1 he).1
      simp at this
      exact this
    rw [h0] at he
    simp at he
    subst he
    exact .inr hbk
/-- a list that is there joins the others -/
theorem Ow.tell2 {w2 w3 : World} {v3 : Value} (h : Ow w0 w p vl V T L) {d : Dc} {t : List UInt8} (hon : On SP w0.heap.size (fun b => XV V b ∨ d.v.ownBlock = some b) w p 6 L) (ho : Own w w0.heap.size d.v t) (hx : ∀ b, d.v.ownBlock = some b → ¬ XV V b) (hb : Below w.heap.size w w2) (hg : w2.grownBy w3 vl.ownBlock) (hr : OwnG KL w3 w0.heap.size v3 (V ++ [d])) : Ow w0 w3 p v3 (V ++ [d]) (T ++ [t]) L := by
  have hrow2 := h.row.below hb
  have keep : ∀ (b : Nat) C f, w2.heap[b]? = some (.cells C 5 f) → w3.heap[b]? = w2.heap[b]? := fun b C f h1 => hg.block b (Array.getElem?_eq_some_iff.1 h1).1 (fun e => by
    obtain ⟨cur, h2⟩ := hrow2.at_ e.symm
    exact absurd (ty_of h1 h2) (by decide))
  have hf2 := (h.fml.push2 ho hx).below hb
  refine ⟨hr, hf2.kept (fun b hx => by obtain ⟨C, h1⟩ := hf2.ty hx; exact keep b C _ h1), ?_, ?_⟩
  · have h3 : On SP w0.heap.size (XV (V ++ [d])) w2 p 6 L := (hon.below hb).less _ (fun b hx => XV.snoc hx)
    refine h3.kept3 (fun b C t f h1 ht => ?_)
    refine hg.block b (Array.getElem?_eq_some_iff.1 h1).1 (fun e => ?_)
    obtain ⟨cur, h2⟩ := hrow2.at_ e.symm
    have h4 := ty_of h1 h2
    rcases ht with rfl | rfl | rfl
    · exact absurd h4 (by decide)
    · exact absurd h4 (by decide)
    · exact absurd h4 (by decide)
  · exact (h.bel.trans (hb.mono h.bel.size)).grown hg (Nat.le_trans h.bel.size hb.size) (fun j hj => (hrow2.lt' hj).1)
/-- a list that grows: where it lies now -/
structure Mor (w0 w : World) (p : Nat) (vl : Value) (V : List Dc) (L : List Dgm) (k : Nat) (d : Dc) (t : List UInt8) (more : Value) (zs : List UInt8) : Prop where
  own : Own w w0.heap.size more zs
  on : On SP w0.heap.size (fun b => XV V b ∨ more.ownBlock = some b) w p 6 L
  sh : (∃ g m, d.v = .slice (some ⟨g, 0, none⟩) d.n d.c ∧ more = .slice (some ⟨g, 0, none⟩) m d.c ∧ zs.take d.n = t ∧ d.n ≤ m) ∨ (∀ b, more.ownBlock = some b → ¬ XV V b)
theorem Mor.start (h : Ow w0 w p vl V T L) {k : Nat} {d : Dc} {t : List UInt8} (hd : V[k]? = some d) (ht : T[k]? = some t) : Mor w0 w p vl V L k d t d.v t := by
  have ho := h.fml.own k d t hd ht
  refine ⟨ho, h.on.less _ (fun b hx => hx.elim id (fun e => ⟨k, d, hd, e⟩)), ?_⟩
  rcases ho.2 with ⟨e, -⟩ | ⟨g, cap, cur, e, hB, hg, hn, hm, r⟩
  · exact .inr (fun b hb => by rw [e] at hb; cases hb)
  · have e2 : d.a = some ⟨g, 0, none⟩ ∧ d.n = t.length ∧ d.c = cap := by
      have e3 : Value.slice d.a d.n d.c = _ := e
      simp only [Value.slice.injEq] at e3
      exact e3
    refine .inl ⟨g, d.n, by rw [← e2.1], by rw [← e2.1], ?_, Nat.le_refl _⟩
    rw [e2.2.1, List.take_length]
/-- one byte more -/
theorem Mor.step {w3 : World} {more more' : Value} {zs : List UInt8} {x : UInt8} (h : Ow w0 w p vl V T L) {k : Nat} {d : Dc} {t : List UInt8} (hd : V[k]? = some d) (ht : T[k]? = some t) (hm : Mor w0 w p vl V L k d t more zs) (hb : Below w.heap.size w w')
    (ho : Own w3 w0.heap.size more' (zs ++ [x])) (hc : (∃ g cap, more = .slice (some ⟨g, 0, none⟩) zs.length cap ∧ more' = .slice (some ⟨g, 0, none⟩) (zs ++ [x]).length cap ∧ w'.grownBy w3 (some g)) ∨ (w'.grownBy w3 none ∧ ∃ cap, more' = .slice (some ⟨w'.heap.size, 0, none⟩) (zs ++ [x]).length cap)) :
    Ow w0 w3 p vl V T L ∧ Mor w0 w3 p vl V L k d t more' (zs ++ [x]) := by
  have h' := h.below hb
  have hTk : T.set k t = T := List.ext_getElem? (fun j => by
    rw [List.getElem?_set]
    by_cases hj : k = j
    · subst hj
      have := (List.getElem?_eq_some_iff.1 ht).1
      rw [if_pos rfl, if_pos this, ht]
    · rw [if_neg hj])
  rcases hc with ⟨g, cap, rfl, rfl, hg⟩ | ⟨hg, cap, rfl⟩
  · have hon' := hm.on.below hb
    rcases hm.sh with ⟨g', m, e1, e2, e3, e4⟩ | hsh
    · simp only [Value.slice.injEq, Option.some.injEq, Addr.mk.injEq] at e2
      obtain ⟨⟨rfl, -, -⟩, hml, rfl⟩ := e2
      have hpre : Own w3 w0.heap.size d.v t := by
        have h9 := rowI_pre (n := d.n) (show w3.ownsRow w0.heap.size 5 1 (.slice (some ⟨g, 0, none⟩) (zs ++ [x]).length d.c) (zs ++ [x]).length (bv (zs ++ [x])) from ho) (by rw [List.length_append]; omega)
        have hzl : d.n ≤ zs.length := by omega
        have h8 : (bv (zs ++ [x])).take d.n = bv t := by
          rw [bv_append, List.take_append_of_le_length (by rw [bv_length]; exact hzl), ← e3]
          unfold bv
          rw [List.map_take]
        have h7 : t.length = d.n := by rw [← e3, List.length_take]; omega
        unfold Own
        rw [e1, h7, ← h8]
        exact h9
      refine ⟨by have h9 := h'.setr hg hd (by rw [e1]; rfl) hpre; rw [hTk] at h9; exact h9, ho, hon'.write (fun b hb hx => hg.block b hb (fun e2 => hx (by cases e2; exact .inr rfl))), .inl ⟨g, _, e1, rfl, ?_, by rw [List.length_append]; omega⟩⟩
      rw [List.take_append_of_le_length (by omega)]
      exact e3
    · have hXg : ¬ XV V g := hsh g rfl
      have hrg : vl.ownBlock ≠ some g := fun e => by
        obtain ⟨C, h1⟩ := (Own.below hm.own hb).blk (b := g) rfl
        obtain ⟨cur, h2⟩ := h'.row.at_ e
        exact absurd (ty_of h1 h2) (by decide)
      obtain ⟨h1, h2⟩ := h'.far hg (World.ownsRow.lt hm.own g rfl).1 hrg hXg (X := fun b => XV V b ∨ (Value.slice (some ⟨g, 0, none⟩) zs.length cap).ownBlock = some b) (fun b hx => .inl hx) (.inr rfl) hon'
      exact ⟨h1, ho, h2, .inr (fun b e => hsh b e)⟩
  · have hb3 : Below w'.heap.size w' w3 := ⟨hg.os, hg.tape, hg.output, hg.size, fun b hb => hg.block b hb (fun e => by cases e)⟩
    refine ⟨h'.below hb3, ho, (h'.on.excl hb3 _ (fun b hx => hx.elim .inl (fun e => by cases e; exact .inr (Nat.le_refl _)))), .inr (fun b e hx => ?_)⟩
    cases e
    have h9 : w'.heap.size < w'.heap.size := (h'.fml.lt hx).2
    exact Nat.lt_irrefl _ h9
end
end Go.Proofs.YtnpcgegcoakbmaaDoor
