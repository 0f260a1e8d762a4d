import Derived.Test.YtnfikcegmicooaaDoorLwS
namespace Go.Proofs.YtnfikcegmicooaaDoor
set_option linter.unusedVariables false
set_option linter.unusedSimpArgs false
open Go.RowKit Go.Maps Go.Shelf
/-- two Advances tell what one tells -/
theorem adv_comp {N l0 x : Nat} {L T D : List Tm} (hT : AdvA L N l0 T) (hD : AdvA (advL L N l0) (max N (min l0 mxN)) x D) :
    AdvA L N (max l0 x) (T ++ D) ∧ advL (advL L N l0) (max N (min l0 mxN)) x = advL L N (max l0 x) ∧ max (max N (min l0 mxN)) (min x mxN) = max N (min (max l0 x) mxN) := by
  have hc : min (max l0 x) mxN = max (min l0 mxN) (min x mxN) := by omega
  unfold AdvA advL at *
  rw [hc]
  generalize min l0 mxN = a at *
  generalize min x mxN = b at *
  by_cases ha : N < a
  · rw [if_pos ha] at hT hD
    rw [Nat.max_eq_right (Nat.le_of_lt ha)] at hD ⊢
    rw [if_pos ha]
    by_cases hb : a < b
    · rw [if_pos hb] at hD
      have e1 : max a b = b := Nat.max_eq_right (Nat.le_of_lt hb)
      have h3 : N < b := Nat.lt_trans ha hb
      rw [e1, if_pos h3, if_pos h3, if_pos hb]
      obtain ⟨t1, t2⟩ := hT
      obtain ⟨d1, d2⟩ := hD
      refine ⟨⟨List.pairwise_append.2 ⟨t1, d1, fun t ht d hd => ?_⟩, fun t => ?_⟩, ?_, by omega⟩
      · have h5 := ((t2 t).1 ht).2
        have h6 := (List.mem_filter.1 ((d2 d).1 hd).1).2
        simp only [decide_eq_true_eq] at h6
        unfold ltT
        omega
      · rw [List.mem_append, t2, d2, List.mem_filter]
        simp only [decide_eq_true_eq]
        constructor
        · rintro (⟨h5, h6⟩ | ⟨⟨h5, -⟩, h6⟩)
          · exact ⟨h5, by omega⟩
          · exact ⟨h5, h6⟩
        · rintro ⟨h5, h6⟩
          by_cases h7 : t.at_ ≤ a
          · exact .inl ⟨h5, h7⟩
          · exact .inr ⟨⟨h5, by omega⟩, h6⟩
      · rw [List.filter_filter]
        refine List.filter_congr (fun t _ => ?_)
        by_cases h5 : b < t.at_
        · have h6 : a < t.at_ := Nat.lt_trans hb h5
          simp [h5, h6]
        · simp [h5]
    · rw [if_neg hb] at hD
      subst hD
      have e1 : max a b = a := Nat.max_eq_left (Nat.le_of_not_lt hb)
      rw [e1, if_pos ha, if_pos ha, if_neg hb, List.append_nil]
      exact ⟨hT, rfl, by omega⟩
  · rw [if_neg ha] at hT hD
    rw [Nat.max_eq_left (Nat.le_of_not_lt ha)] at hD ⊢
    rw [if_neg ha]
    subst hT
    rw [List.nil_append]
    by_cases hb : N < b
    · rw [if_pos hb] at hD
      have e1 : max a b = b := Nat.max_eq_right (by omega)
      rw [e1, if_pos hb, if_pos hb]
      exact ⟨hD, rfl, rfl⟩
    · rw [if_neg hb] at hD
      have h3 : ¬ N < max a b := by omega
      rw [if_neg h3, if_neg h3, if_neg hb]
      exact ⟨hD, rfl, by omega⟩
theorem adv_len {N l : Nat} {L T : List Tm} (h : AdvA L N l T) : T.length ≤ L.length := by
  unfold AdvA at h
  by_cases hx : N < min l mxN
  · rw [if_pos hx] at h
    exact sub_len (sorted_nd h.1) (fun t h8 => ((h.2 t).1 h8).1)
  · rw [if_neg hx] at h
    rw [h]
    exact Nat.zero_le _
theorem mapZ_one (zs : List Int) : ∀ u ∈ zs.map (fun z => (Value.int .i64 z)), u.oneCell' = true := by
  intro u hu
  obtain ⟨z, -, rfl⟩ := List.mem_map.1 hu
  rfl
/-- append of a row of numbers -/
theorem wp_appZ {w : World} {ops : Array Oper} {rest : List Oper} {o : Oper} {a : Act} {Q : Exit → Act → World → Prop} (hgd : o.guard = none) (s x : Operand)
    (ho : o.op = .call { callee := .builtin .append, args := #[s, x], argTypes := #[33, 33] }) (B B2 : Nat) (v v2 : Value) (zs ys : List Int)
    (hs : a.eval s = v) (hown : OwnZ w B v zs) (hx : a.eval x = v2) (hy : OwnZ w B2 v2 ys) (hb : zs.length + ys.length ≤ 4398046511104) (hbase : B ≤ w.heap.size)
    (h : ∀ v' w', OwnZ w' B v' (zs ++ ys) → w.grownBy w' v.ownBlock → wpList Tryd.prog ops Q rest (a.put o.dst v') w') : wpList Tryd.prog ops Q (o :: rest) a w := by
  obtain ⟨i0, hi, hz0, hz1, hz2⟩ := info_parts infoZ
  rcases hy.2 with ⟨rfl, h0⟩ | ⟨g, cap, cur, rfl, r⟩
  · obtain rfl : ys = [] := List.eq_nil_of_length_eq_zero h0
    refine wpList_append_own_none hgd s x 33 ho B 3 i0 1 Tryd.underlying33 hi v zs.length (zs.map (fun z => .int .i64 z)) hs hown hx ?_
    exact h v w (by simpa using hown) ⟨rfl, rfl, rfl, Nat.le_refl _, fun _ _ _ => rfl⟩
  · refine wpList_append_own w hgd s x 33 ho B 3 i0 _ 1 8 Tryd.underlying33 hi hz0 hz1 hz2 rfl (by decide) v zs.length (zs.map (fun z => .int .i64 z)) hs hown ⟨g, 0, none⟩ ys.length cap (ys.map (fun z => .int .i64 z)) hx (by simp) ?_ (mapZ_one ys) (by simp only [maxLen]; omega) (by omega) hbase ?_
    · intro j u hj
      have hlt : j < ys.length := by
        have := (List.getElem?_eq_some_iff.1 hj).1
        simpa using this
      rw [Go.WideShapes.add_plain]
      have h3 := World.ownsRow.cellAt hy j (by omega)
      rw [hj] at h3
      rw [Nat.zero_add]
      exact h3
    · intro v' w' h1 h2 _
      refine h v' w' ?_ h2
      unfold OwnZ
      rw [List.length_append, List.map_append]
      exact h1
theorem rowZ_noW {w : World} {B p m N S : Nat} {L : List Tm} {V : Nat → Nat → Value} {z : Value} {zs : List Int} (h : OwnZ w B z zs) (h' : Wt w p m N S L V) {b : Nat} (hb : z.ownBlock = some b) (hf : footW p m V b) : False := by
  have hz : ∃ cur, w.heap[b]? = some (.cells cur 3 (0, 0)) := by
    rcases h.2 with ⟨rfl, -⟩ | ⟨g, cap, cur, rfl, -, hg, -⟩
    · cases hb
    · cases hb; exact ⟨cur, hg⟩
  obtain ⟨cur, e⟩ := hz
  rcases h'.types hf with ⟨C', e'⟩ | ⟨C', e'⟩ | ⟨es, cl, e'⟩ <;> rw [e] at e' <;> simp only [Option.some.injEq, Obj.cells.injEq, reduceCtorEq] at e' <;> exact absurd e'.2.1 (by decide)
/-- two wheels side by side -/
structure Tw (B : Nat) (w : World) (p m N S : Nat) (L : List Tm) (V : Nat → Nat → Value) (q k N' S' : Nat) (L' : List Tm) (U : Nat → Nat → Value) : Prop where
  a : Wt w p m N S L V
  b : Wt w q k N' S' L' U
  dis : ∀ i, footW p m V i → footW q k U i → False
  fa : ∀ i, footW p m V i → B ≤ i
  fb : ∀ i, footW q k U i → B ≤ i
  tab : TabZ w
  le : B ≤ w.heap.size
section
variable {B : Nat} {w w' : World} {p m N S : Nat} {L : List Tm} {V : Nat → Nat → Value} {q k N' S' : Nat} {L' : List Tm} {U : Nat → Nat → Value}
theorem Tw.below (h : Tw B w p m N S L V q k N' S' L' U) (hb : Below w.heap.size w w') : Tw B w' p m N S L V q k N' S' L' U :=
  ⟨h.a.below hb, h.b.below hb, h.dis, h.fa, h.fb, h.tab.below hb, Nat.le_trans h.le hb.size⟩
theorem Tw.swap (h : Tw B w p m N S L V q k N' S' L' U) : Tw B w q k N' S' L' U p m N S L V := ⟨h.b, h.a, fun i h1 h2 => h.dis i h2 h1, h.fb, h.fa, h.tab, h.le⟩
theorem Tw.stp {N2 S2 : Nat} {L2 : List Tm} {V2 : Nat → Nat → Value} (h : Tw B w p m N S L V q k N' S' L' U) (h2 : Wt w' p m N2 S2 L2 V2) (hs : Stp w w' p m V V2) : Tw B w' p m N2 S2 L2 V2 q k N' S' L' U ∧ Below B w w' := by
  refine ⟨⟨h2, h.b.chg hs.chg (fun i hi hi2 => h.dis i hi2 hi), fun i h3 h4 => ?_, fun i h3 => ?_, h.fb, hs.tab h.a.z h.tab, Nat.le_trans h.le hs.chg.size⟩, hs.chg.below h.fa h.le⟩
  · rcases hs.new i h3 with h5 | h5
    · exact h.dis i h5 h4
    · exact Nat.lt_irrefl _ (Nat.lt_of_lt_of_le (h.b.lt h4) h5)
  · rcases hs.new i h3 with h5 | h5
    · exact h.fa i h5
    · exact Nat.le_trans h.le h5
/-- a row of numbers has grown -/
theorem Tw.grown {Bz : Nat} {z : Value} {zs : List Int} (h : Tw B w p m N S L V q k N' S' L' U) (hz : OwnZ w Bz z zs) (hp : 0 < Bz) (hg : w.grownBy w' z.ownBlock) : Tw B w' p m N S L V q k N' S' L' U := by
  have hc : Chg (fun b => z.ownBlock = some b) w w' := Chg.of_grown hg (fun b e => e)
  refine ⟨h.a.chg hc (fun i hi e => rowZ_noW hz h.a e hi), h.b.chg hc (fun i hi e => rowZ_noW hz h.b e hi), h.dis, h.fa, h.fb, fun j hj => ?_, Nat.le_trans h.le hc.size⟩
  have h1 := h.tab j hj
  exact (World.cell?_of_block (hc.block 0 (World.block_lt_of_cell? w _ h1) (fun e => by have := (World.ownsRow.lt hz 0 e).1; omega))).trans h1
end
end Go.Proofs.YtnfikcegmicooaaDoor
