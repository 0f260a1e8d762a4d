import Derived.Test.YtnpcgegcoakbmaaDoorLEd
import Derived.Test.YtnpcgegcoakbmaaDoorAI0
namespace Go.Proofs.YtnpcgegcoakbmaaDoor
set_option linter.unusedVariables false
set_option linter.unusedSimpArgs false
open Go.RowKit
abbrev KL : Kd Dc := { t := 26, ts := 39, k := 1, by_ := 24, f := fun d => [d.v], z := .slice none 0 0, hk := fun _ => rfl, h1 := (fun d u hu => by simp at hu; subst hu; rfl), hpos := by decide, ht := Tryd.underlying39, hi := by kernel_rfl, hz := rfl }
theorem On.kept3 {S : Sd} {B : Nat} {X : Nat → Prop} {w w' : World} {p R : Nat} {L : List Dgm} (h : On S B X w p R L) (hk : ∀ (b : Nat) C t f, w.heap[b]? = some (.cells C t f) → (t = S.tW ∨ t = S.K.t ∨ t = 5) → w'.heap[b]? = w.heap[b]?) : On S B X w' p R L := by
  obtain ⟨v, E, h1, hf⟩ := h
  refine ⟨v, E, h1.kept (fun b hb => ?_), hf⟩
  rcases hb with rfl | hb | ⟨e, he, ad, ha, rfl⟩
  · exact hk _ _ _ _ h1.hp (.inl rfl)
  · obtain ⟨cur, h3⟩ := h1.row.at_ hb
    exact hk _ _ _ _ h3 (.inr (.inl rfl))
  · obtain ⟨xs, hx⟩ := h1.mem he
    obtain ⟨cur, fr, h3⟩ := hx.ty ad ha
    exact hk _ _ _ _ h3 (.inr (.inr rfl))
/-- lists of bytes, no two in one block -/
structure Fml (w : World) (B : Nat) (V : List Dc) (T : List (List UInt8)) : Prop where
  len : V.length = T.length
  own : ∀ (i : Nat) d t, V[i]? = some d → T[i]? = some t → Own w B d.v t
  ap : ∀ (i j : Nat) d e b, V[i]? = some d → V[j]? = some e → i ≠ j → d.v.ownBlock = some b → e.v.ownBlock = some b → False
def XV (V : List Dc) (b : Nat) : Prop := ∃ (i : Nat) (d : Dc), V[i]? = some d ∧ d.v.ownBlock = some b
theorem Own.blk {w : World} {B : Nat} {v : Value} {xs : List UInt8} (h : Own w B v xs) {b : Nat} (e : v.ownBlock = some b) : ∃ C, w.heap[b]? = some (.cells C 5 (0, 0)) := by
  rcases h.2 with ⟨rfl, -⟩ | ⟨g, cap, cur, rfl, -, hg, -⟩
  · cases e
  · cases e; exact ⟨cur, hg⟩
section
variable {w w' : World} {B : Nat} {V : List Dc} {T : List (List UInt8)}
theorem Fml.get (h : Fml w B V T) {i : Nat} {d : Dc} (hd : V[i]? = some d) : ∃ t, T[i]? = some t ∧ Own w B d.v t := by
  have hi : i < T.length := by rw [← h.len]; exact (List.getElem?_eq_some_iff.1 hd).1
  exact ⟨T[i], List.getElem?_eq_getElem hi, h.own i d _ hd (List.getElem?_eq_getElem hi)⟩
theorem Fml.lt (h : Fml w B V T) {b : Nat} (hb : XV V b) : B ≤ b ∧ b < w.heap.size := by
  obtain ⟨i, d, hd, e⟩ := hb
  obtain ⟨t, -, ho⟩ := h.get hd
  exact World.ownsRow.lt ho b e
theorem Fml.kept (h : Fml w B V T) (hk : ∀ b, XV V b → w'.heap[b]? = w.heap[b]?) : Fml w' B V T :=
  ⟨h.len, fun i d t hd ht => Own.keptb (h.own i d t hd ht) (fun b e => hk b ⟨i, d, hd, e⟩), h.ap⟩
theorem Fml.below (h : Fml w B V T) (hb : Below w.heap.size w w') : Fml w' B V T := h.kept (fun b hx => hb.block b (h.lt hx).2)
theorem Fml.ty (h : Fml w B V T) {b : Nat} (hb : XV V b) : ∃ C, w.heap[b]? = some (.cells C 5 (0, 0)) := by
  obtain ⟨i, d, hd, e⟩ := hb
  obtain ⟨t, -, ho⟩ := h.get hd
  exact ho.blk e
theorem Fml.push (h : Fml w B V T) (hb : Below w.heap.size w w') (hB : B ≤ w.heap.size) {d : Dc} {t : List UInt8} (ho : Own w' w.heap.size d.v t) : Fml w' B (V ++ [d]) (T ++ [t]) := by
  have h' := h.below hb
  have old : ∀ (i : Nat) e b, V[i]? = some e → e.v.ownBlock = some b → b < w.heap.size := fun i e b he hb => (h.lt ⟨i, e, he, hb⟩).2
  have new : ∀ b, d.v.ownBlock = some b → w.heap.size ≤ b := fun b e => (World.ownsRow.lt ho b e).1
  refine ⟨by rw [List.length_append, List.length_append, h.len]; rfl, fun i e s he hs => ?_, fun i j e f b he hf hne h1 h2 => ?_⟩
  · rw [List.getElem?_append] at he hs
    rw [h.len] at he
    by_cases hi : i < T.length
    · rw [if_pos hi] at he hs
      exact h'.own i e s he hs
    · rw [if_neg hi] at he hs
      have h0 : i - T.length = 0 := by
        have := (List.getElem?_eq_some_iff.1 hs).1
        simp at this
        exact this
      rw [h0] at he hs
      simp at he hs
      subst he hs
      exact Own.base ho hB
  · rw [List.getElem?_append] at he hf
    by_cases hi : i < V.length
    · rw [if_pos hi] at he
      by_cases hj : j < V.length
      · rw [if_pos hj] at hf
        exact h.ap i j e f b he hf hne h1 h2
      · rw [if_neg hj] at hf
        have h0 : j - V.length = 0 := by
          have := (List.getElem?_eq_some_iff.1 hf).1
          simp at this
          exact this
        rw [h0] at hf
        simp at hf
        subst hf
        have := old i e b he h1
        have := new b h2
        omega
    · rw [if_neg hi] at he
      have h0 : i - V.length = 0 := by
        have := (List.getElem?_eq_some_iff.1 he).1
        simp at this
        exact this
      rw [h0] at he
      simp at he
      subst he
      by_cases hj : j < V.length
      · rw [if_pos hj] at hf
        have := old j f b hf h2
        have := new b h1
        omega
      · rw [if_neg hj] at hf
        have h3 := (List.getElem?_eq_some_iff.1 hf).1
        simp at h3
        omega
/-- one of the rows is another, in the same slice -/
theorem Fml.setr (h : Fml w B V T) {g : Nat} (hg : w.grownBy w' (some g)) {i : Nat} {d : Dc} (hd : V[i]? = some d) (he : d.v.ownBlock = some g) {t' : List UInt8} (ho : Own w' B d.v t') : Fml w' B V (T.set i t') := by
  refine ⟨by rw [List.length_set]; exact h.len, fun j e s hj hs => ?_, h.ap⟩
  rw [List.getElem?_set] at hs
  by_cases hij : i = j
  · subst hij
    rw [hd] at hj
    cases hj
    rw [if_pos rfl] at hs
    split at hs
    · cases hs; exact ho
    · cases hs
  · rw [if_neg hij] at hs
    have h1 := h.own j e s hj hs
    exact Own.keptb h1 (fun b hb => hg.block b (World.ownsRow.lt h1 b hb).2 (fun e2 => by
      cases e2
      exact h.ap i j d e g hd hj hij he hb))
end
/-- what the law holds: the row of the lists, the lists, the way -/
structure Ow (w0 w : World) (p : Nat) (vl : Value) (V : List Dc) (T : List (List UInt8)) (L : List Dgm) : Prop where
  row : OwnG KL w w0.heap.size vl V
  fml : Fml w w0.heap.size V T
  on : On SP w0.heap.size (XV V) w p 6 L
  bel : Below w0.heap.size w0 w
section
variable {w0 w w' : World} {p : Nat} {vl : Value} {V : List Dc} {T : List (List UInt8)} {L : List Dgm}
theorem Ow.below (h : Ow w0 w p vl V T L) (hb : Below w.heap.size w w') : Ow w0 w' p vl V T L :=
  ⟨h.row.below hb, h.fml.below hb, h.on.below hb, h.bel.trans (hb.mono h.bel.size)⟩
theorem Ow.drew (h : Ow w0 w p vl V T L) (n : Nat) : Ow w0 (w.drewN n) p vl V T L := h.below (below_drewN _ _)
/-- one list more: the list is told, then the row grows -/
theorem Ow.tell {w2 w3 : World} {v3 : Value} (h : Ow w0 w p vl V T L) (hb : Below w.heap.size w w2) {d : Dc} {t : List UInt8} (ho : Own w2 w.heap.size d.v t) (hg : w2.grownBy w3 vl.ownBlock) (hr : OwnG KL w3 w0.heap.size v3 (V ++ [d])) : Ow w0 w3 p v3 (V ++ [d]) (T ++ [t]) L := by
  have hrow2 := h.row.below hb
  have keep : ∀ (b : Nat) C f, w2.heap[b]? = some (.cells C 5 f) → w3.heap[b]? = w2.heap[b]? := fun b C f h1 => hg.block b (Array.getElem?_eq_some_iff.1 h1).1 (fun e => by
    obtain ⟨cur, h2⟩ := hrow2.at_ e.symm
    exact absurd (ty_of h1 h2) (by decide))
  have hf2 := h.fml.push hb h.bel.size ho
  refine ⟨hr, hf2.kept (fun b hx => by obtain ⟨C, h1⟩ := hf2.ty hx; exact keep b C _ h1), ?_, ?_⟩
  · have h3 : On SP w0.heap.size (XV (V ++ [d])) w2 p 6 L := h.on.excl hb _ (fun b hx => by
      obtain ⟨i, e, he, hbk⟩ := hx
      rw [List.getElem?_append] at he
      by_cases hi : i < V.length
      · rw [if_pos hi] at he; exact .inl ⟨i, e, he, hbk⟩
      · rw [if_neg hi] at he
        have h0 : i - V.length = 0 := by
          have := (List.getElem?_eq_some_iff.1 he).1
          simp at this
          exact this
        rw [h0] at he
        simp at he
        subst he
        exact .inr (World.ownsRow.lt ho b hbk).1)
    refine h3.kept3 (fun b C t f h1 ht => ?_)
    refine hg.block b (Array.getElem?_eq_some_iff.1 h1).1 (fun e => ?_)
    obtain ⟨cur, h2⟩ := hrow2.at_ e.symm
    have h4 := ty_of h1 h2
    rcases ht with rfl | rfl | rfl
    · exact absurd h4 (by decide)
    · exact absurd h4 (by decide)
    · exact absurd h4 (by decide)
  · exact (h.bel.trans (hb.mono h.bel.size)).grown hg (Nat.le_trans h.bel.size hb.size) (fun j hj => (hrow2.lt' hj).1)
/-- one of the lists is written to, or grows, where it lies -/
theorem Ow.setr (h : Ow w0 w p vl V T L) {g : Nat} (hg : w.grownBy w' (some g)) {i : Nat} {d : Dc} (hd : V[i]? = some d) (he : d.v.ownBlock = some g) {t' : List UInt8} (ho : Own w' w0.heap.size d.v t') : Ow w0 w' p vl V (T.set i t') L := by
  obtain ⟨C, hC⟩ := h.fml.ty ⟨i, d, hd, he⟩
  refine ⟨h.row.kept (fun b e => hg.block b (h.row.lt' e).2 (fun e2 => ?_)), h.fml.setr hg hd he ho, h.on.write (fun b hb hx => hg.block b hb (fun e2 => hx (by cases e2; exact ⟨i, d, hd, he⟩))), h.bel.grown hg h.bel.size (fun j hj => by cases hj; exact (h.fml.lt ⟨i, d, hd, he⟩).1)⟩
  cases e2
  obtain ⟨cur, h2⟩ := h.row.at_ e
  exact absurd (ty_of hC h2) (by decide)
/-- something else is written to, that lies from B on -/
theorem Ow.far (h : Ow w0 w p vl V T L) {g : Nat} (hg : w.grownBy w' (some g)) (hB : w0.heap.size ≤ g) (hr : vl.ownBlock ≠ some g) (hV : ¬ XV V g) {X : Nat → Prop} (hX : ∀ b, XV V b → X b) (hXg : X g) (hon : On SP w0.heap.size X w p 6 L) : Ow w0 w' p vl V T L ∧ On SP w0.heap.size X w' p 6 L := by
  have hon' := hon.write (w' := w') (fun b hb hx => hg.block b hb (fun e2 => hx (by cases e2; exact hXg)))
  exact ⟨⟨h.row.kept (fun b e => hg.block b (h.row.lt' e).2 (fun e2 => by cases e2; exact hr e)), h.fml.kept (fun b hx => hg.block b (h.fml.lt hx).2 (fun e2 => by cases e2; exact hV hx)), hon'.less _ hX, h.bel.grown hg h.bel.size (fun j hj => by cases hj; exact hB)⟩, hon'⟩
end
end Go.Proofs.YtnpcgegcoakbmaaDoor
