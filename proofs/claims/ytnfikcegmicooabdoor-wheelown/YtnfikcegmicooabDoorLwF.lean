import Derived.Test.YtnfikcegmicooabDoorLwE
import Derived.Test.YtnfikcegmicooabDoorWWNil
namespace Go.Proofs.YtnfikcegmicooabDoor
set_option linter.unusedVariables false
set_option linter.unusedSimpArgs false
open Go.RowKit Go.Maps Go.Shelf
abbrev ptr (p : Nat) : Value := .pointer (some ⟨p, 0, none⟩)
abbrev tWp : TypeId := 35
abbrev tRp : TypeId := 37
/-- two wheels, and the document's beside them -/
structure Pr (B : Nat) (w : World) (g1 g2 : Nat) (p m q N S : Nat → Nat) (L : Nat → List Tm) (V : Nat → Nat → Nat → Value) (v : Nat → Value) : Prop where
  r1 : w.heap[g1]? = some (.cells #[ptr (p 0), ptr (p 1)] tWp (0, 0))
  r2 : w.heap[g2]? = some (.cells #[ptr (q 0), ptr (q 1)] tRp (0, 0))
  wt : ∀ i, i < 2 → Wt w (p i) (m i) (N i) (S i) (L i) (V i)
  rf : ∀ i, i < 2 → RfW w (q i) (N i) (L i) (v i)
  ap : ∀ i j b, i < 2 → j < 2 → i ≠ j → ftP (p i) (m i) (V i) (q i) (v i) b → ftP (p j) (m j) (V j) (q j) (v j) b → False
  tab : TabZ w
  base : ∀ i b, i < 2 → ftP (p i) (m i) (V i) (q i) (v i) b → B ≤ b
  pos : 0 < B
  le : B ≤ w.heap.size
section
variable {B : Nat} {w w' : World} {g1 g2 : Nat} {p m q N S : Nat → Nat} {L : Nat → List Tm} {V : Nat → Nat → Nat → Value} {v : Nat → Value}
theorem Pr.ftlt (h : Pr B w g1 g2 p m q N S L V v) {i b : Nat} (hi : i < 2) (hb : ftP (p i) (m i) (V i) (q i) (v i) b) : b < w.heap.size := by
  rcases hb with h1 | h1
  · exact (h.wt i hi).lt h1
  · exact (h.rf i hi).lt h1
theorem Pr.noRow (h : Pr B w g1 g2 p m q N S L V v) {i b : Nat} (hi : i < 2) {C : Array Value} {t : TypeId} (hb : w.heap[b]? = some (.cells C t (0, 0))) (ht : t ≠ tWh ∧ t ≠ tTm ∧ t ≠ tRw ∧ t ≠ tRt) : ¬ ftP (p i) (m i) (V i) (q i) (v i) b := by
  rintro (h1 | h1)
  · rcases (h.wt i hi).types h1 with ⟨C', e⟩ | ⟨C', e⟩ | ⟨es, cl, e⟩ <;> rw [hb] at e <;> simp only [Option.some.injEq, Obj.cells.injEq, reduceCtorEq] at e
    · exact ht.1 e.2.1
    · exact ht.2.1 e.2.1
  · rcases (h.rf i hi).types h1 with ⟨C', e⟩ | ⟨C', e⟩ <;> rw [hb] at e <;> simp only [Option.some.injEq, Obj.cells.injEq] at e
    · exact ht.2.2.1 e.2.1
    · exact ht.2.2.2 e.2.1
theorem Pr.below (h : Pr B w g1 g2 p m q N S L V v) (hb : Below w.heap.size w w') : Pr B w' g1 g2 p m q N S L V v :=
  ⟨(hb.block _ (Array.getElem?_eq_some_iff.1 h.r1).1).trans h.r1, (hb.block _ (Array.getElem?_eq_some_iff.1 h.r2).1).trans h.r2, fun i hi => (h.wt i hi).below hb, fun i hi => (h.rf i hi).below hb, h.ap, h.tab.below hb, h.base, h.pos, Nat.le_trans h.le hb.size⟩
theorem Pr.step (h : Pr B w g1 g2 p m q N S L V v) {i : Nat} (hi : i < 2) {N' S' : Nat} {L' : List Tm} {V' : Nat → Nat → Value} {v' : Value} (hw : Wt w' (p i) (m i) N' S' L' V') (hr : RfW w' (q i) N' L' v') (hs : PSt w w' (p i) (m i) (q i) (V i) V' (v i) v') :
    Pr B w' g1 g2 p m q (upd N i N') (upd S i S') (upd L i L') (upd V i V') (upd v i v') ∧ Below B w w' := by
  have hb : Below B w w' := hs.chg.below (fun b hb => h.base i b hi hb) h.le
  have hnew : ∀ b, ftP (p i) (m i) V' (q i) v' b → B ≤ b := fun b hb' => by
    rcases hs.new b hb' with h1 | h1
    · exact h.base i b hi h1
    · exact Nat.le_trans h.le h1
  have far : ∀ j, j < 2 → j ≠ i → ∀ b, ftP (p j) (m j) (V j) (q j) (v j) b → w'.heap[b]? = w.heap[b]? := fun j hj hne b hb' => hs.chg.block b (h.ftlt hj hb') (fun h9 => h.ap j i b hj hi hne hb' h9)
  have hap : ∀ j b, j < 2 → j ≠ i → ftP (p j) (m j) (V j) (q j) (v j) b → ftP (p i) (m i) V' (q i) v' b → False := fun j b hj hne h1 h2 => by
    rcases hs.new b h2 with h3 | h3
    · exact h.ap j i b hj hi hne h1 h3
    · have := h.ftlt hj h1; omega
  refine ⟨⟨?_, ?_, fun j hj => ?_, fun j hj => ?_, fun j k b hj hk hne h1 h2 => ?_, ?_, fun j b hj h1 => ?_, h.pos, Nat.le_trans h.le hb.size⟩, hb⟩
  · exact (hs.chg.block _ (Array.getElem?_eq_some_iff.1 h.r1).1 (h.noRow hi h.r1 (by decide))).trans h.r1
  · exact (hs.chg.block _ (Array.getElem?_eq_some_iff.1 h.r2).1 (h.noRow hi h.r2 (by decide))).trans h.r2
  · by_cases e : j = i
    · subst e; rw [upd_same, upd_same, upd_same, upd_same]; exact hw
    · rw [upd_other _ e, upd_other _ e, upd_other _ e, upd_other _ e]
      obtain ⟨F, X, ⟨fl, h1, h2⟩, h3⟩ := h.wt j hj
      exact ⟨F, X, ⟨fl, h1.kept (fun b hb' => far j hj e b (.inl hb')), h2⟩, h3⟩
  · by_cases e : j = i
    · subst e; rw [upd_same, upd_same, upd_same]; exact hr
    · rw [upd_other _ e, upd_other _ e, upd_other _ e]
      exact (h.rf j hj).kept (fun b hb' => far j hj e b (.inr hb'))
  · by_cases e1 : j = i
    · subst e1
      have e2 : k ≠ j := fun e => hne e.symm
      rw [upd_same, upd_same] at h1
      rw [upd_other _ e2, upd_other _ e2] at h2
      exact hap k b hk e2 h2 h1
    · rw [upd_other _ e1, upd_other _ e1] at h1
      by_cases e2 : k = i
      · subst e2
        rw [upd_same, upd_same] at h2
        exact hap j b hj e1 h1 h2
      · rw [upd_other _ e2, upd_other _ e2] at h2
        exact h.ap j k b hj hk hne h1 h2
  · intro j hj
    have h1 := h.tab j hj
    exact (World.cell?_of_block (hs.chg.block 0 (World.block_lt_of_cell? w _ h1) (fun h9 => by have := h.base i 0 hi h9; have := h.pos; omega))).trans h1
  · by_cases e : j = i
    · subst e; rw [upd_same, upd_same] at h1; exact hnew b h1
    · rw [upd_other _ e, upd_other _ e] at h1; exact h.base j b hj h1
theorem Pr.c1 (h : Pr B w g1 g2 p m q N S L V v) {i : Nat} (hi : i < 2) : w.cell? ⟨g1, i, none⟩ = some (ptr (p i)) := by
  rw [cell_of_row _ _ _ _ _ _ h.r1]
  have : i = 0 ∨ i = 1 := by omega
  rcases this with rfl | rfl <;> rfl
theorem Pr.c2 (h : Pr B w g1 g2 p m q N S L V v) {i : Nat} (hi : i < 2) : w.cell? ⟨g2, i, none⟩ = some (ptr (q i)) := by
  rw [cell_of_row _ _ _ _ _ _ h.r2]
  have : i = 0 ∨ i = 1 := by omega
  rcases this with rfl | rfl <;> rfl
end
theorem and1 (z : Int) : ∃ i : Nat, i < 2 ∧ bits .and .i64 z 1 = (i : Int) := by
  refine ⟨(BitVec.ofInt 64 z &&& BitVec.ofInt 64 1).toNat, ?_, ?_⟩
  · have h1 : (BitVec.ofInt 64 1).toNat = 1 := by decide
    rw [BitVec.toNat_and, h1]
    exact Nat.lt_of_le_of_lt Nat.and_le_right (by decide)
  · have h1 : (BitVec.ofInt 64 1).toNat = 1 := by decide
    have h2 : (BitVec.ofInt 64 z &&& BitVec.ofInt 64 1).toNat ≤ 1 := by rw [BitVec.toNat_and, h1]; exact Nat.and_le_right
    show IntKind.i64.wrap ((BitVec.ofInt 64 z &&& BitVec.ofInt 64 1).toNat : Int) = _
    simp only [IntKind.wrap, IntKind.signed, IntKind.bits]
    simp
    omega
set_option maxRecDepth 20000 in
set_option maxHeartbeats 3200000 in
theorem two_t (a b : Nat) (w : World) (ht : TabZ w) :
    Calls Tryd.prog 8 #[.int .u64 (a : Int), .int .u64 (b : Int)] w fun e w' => ∃ g1 g2 p m q N S V v, e = .returned (.tuple #[.slice (some ⟨g1, 0, none⟩) 2 2, .slice (some ⟨g2, 0, none⟩) 2 2, .bool true]) ∧ Pr w.heap.size w' g1 g2 p m q N S (fun _ => []) V v ∧ (∀ i, S i = 0) ∧ Below w.heap.size w w' := by
  have hpos : 0 < w.heap.size := World.block_lt_of_cell? w _ (ht 0 (by decide))
  have HT : Hid _ := ht
  clear ht
  go_enter Tryd.func8, Tryd.ntmps8
  go_wp2_with fail
  refine Calls.mono (new_t a w hpos) ?_
  rintro e w1 ⟨p1, m1, V1, rfl, h1, hb1, hf1⟩
  have H1 : Hid _ := And.intro h1 hf1
  have HB1 : Hid _ := hb1
  clear h1 hb1 hf1
  go_wp2_with fail
  refine Calls.mono (new_t b w1 (Nat.lt_of_lt_of_le hpos HB1.out.size)) ?_
  rintro e w2 ⟨p2, m2, V2, rfl, h2, hb2, hf2⟩
  have H2 : Hid _ := And.intro h2 hf2
  have HB2 : Hid _ := hb2
  clear h2 hb2 hf2
  go_wp2_with fail
  obtain ⟨w3, hw3⟩ : ∃ w3, w3 = w2.alloc (Obj.cells #[ptr p1, ptr p2] tWp) := ⟨_, rfl⟩
  have hG1 : w3.heap[w2.heap.size]? = some (.cells #[ptr p1, ptr p2] tWp (0, 0)) := by rw [hw3]; exact heap_alloc_new w2 _
  have hb3 : Below w2.heap.size w2 w3 := by rw [hw3]; exact al (Below.refl _ _) _
  rw [← hw3]
  obtain ⟨G1, hg1⟩ : ∃ G1, G1 = w2.heap.size := ⟨_, rfl⟩
  rw [← hg1] at hG1 ⊢
  have HG1 : Hid _ := hG1
  have HB3 : Hid _ := hb3
  clear hw3 hG1 hb3 hg1
  refine Calls.mono (rnew_t a w3) ?_
  rintro e w4 ⟨rfl, h4, hb4⟩
  obtain ⟨q1, hq1⟩ : ∃ q1, q1 = w3.heap.size := ⟨_, rfl⟩
  rw [← hq1] at h4 ⊢
  have H4 : Hid _ := h4
  have HB4 : Hid _ := hb4
  have HQ1 : Hid _ := hq1
  clear h4 hb4 hq1
  go_wp2_with fail
  refine Calls.mono (rnew_t b w4) ?_
  rintro e w5 ⟨rfl, h5, hb5⟩
  obtain ⟨q2, hq2⟩ : ∃ q2, q2 = w4.heap.size := ⟨_, rfl⟩
  rw [← hq2] at h5 ⊢
  have H5 : Hid _ := h5
  have HB5 : Hid _ := hb5
  have HQ2 : Hid _ := hq2
  clear h5 hb5 hq2
  go_wp2
  refine bodyPost_ret (v := .tuple #[.slice (some ⟨G1, 0, none⟩) 2 2, .slice (some ⟨w5.heap.size, 0, none⟩) 2 2, .bool true]) (by simp [results, Tryd.results8, go_sem]) rfl ?_
  have b6 : Below w5.heap.size w5 (w5.alloc (Obj.cells #[ptr q1, ptr q2] tRp)) := al (Below.refl _ _) _
  have b12 := HB2.out
  have b26 : Below w2.heap.size w2 (w5.alloc (Obj.cells #[ptr q1, ptr q2] tRp)) := below_next (below_next (below_next HB3.out HB4.out) HB5.out) b6
  have b16 : Below w1.heap.size w1 (w5.alloc (Obj.cells #[ptr q1, ptr q2] tRp)) := below_next b12 b26
  have b06 : Below w.heap.size w (w5.alloc (Obj.cells #[ptr q1, ptr q2] tRp)) := below_next HB1.out b16
  have b36 : Below w3.heap.size w3 (w5.alloc (Obj.cells #[ptr q1, ptr q2] tRp)) := below_next (below_next HB4.out HB5.out) b6
  have b46 : Below w4.heap.size w4 (w5.alloc (Obj.cells #[ptr q1, ptr q2] tRp)) := below_next HB5.out b6
  have z1 := HB1.out.size
  have z2 := HB2.out.size
  have z3 := HB3.out.size
  have z4 := HB4.out.size
  have z5 := HB5.out.size
  have zq1 := HQ1.out
  have zq2 := HQ2.out
  have f1 : ∀ y, ftP p1 m1 V1 q1 (.slice none 0 0) y → (w.heap.size ≤ y ∧ y < w1.heap.size) ∨ y = q1 := fun y hy => by
    rcases hy with h9 | h9 | h9
    · exact .inl ⟨H1.out.2 y h9, H1.out.1.lt h9⟩
    · exact .inr h9
    · cases h9
  have f2 : ∀ y, ftP p2 m2 V2 q2 (.slice none 0 0) y → (w1.heap.size ≤ y ∧ y < w2.heap.size) ∨ y = q2 := fun y hy => by
    rcases hy with h9 | h9 | h9
    · exact .inl ⟨H2.out.2 y h9, H2.out.1.lt h9⟩
    · exact .inr h9
    · cases h9
  have hq12 : q1 < w4.heap.size := RfW.lt H4.out (.inl rfl : footR q1 _ q1)
  refine ⟨G1, w5.heap.size, fun i => if i = 0 then p1 else p2, fun i => if i = 0 then m1 else m2, fun i => if i = 0 then q1 else q2, fun i => if i = 0 then min a mxN else min b mxN, fun _ => 0, fun i => if i = 0 then V1 else V2, fun _ => .slice none 0 0, rfl, ⟨?_, heap_alloc_new w5 _, fun i hi => ?_, fun i hi => ?_, fun i j y hi hj hne h1 h2 => ?_, TabZ.below HT.out b06, fun i y hi h1 => ?_, hpos, b06.size⟩, fun _ => rfl, b06⟩
  · exact (b36.block _ (Array.getElem?_eq_some_iff.1 HG1.out).1).trans HG1.out
  · have : i = 0 ∨ i = 1 := by omega
    rcases this with rfl | rfl
    · exact H1.out.1.below b16
    · exact H2.out.1.below b26
  · have : i = 0 ∨ i = 1 := by omega
    rcases this with rfl | rfl
    · exact RfW.below H4.out b46
    · exact RfW.below H5.out b6
  · have h3 : i = 0 ∨ i = 1 := by omega
    have h4 : j = 0 ∨ j = 1 := by omega
    rcases h3 with rfl | rfl <;> rcases h4 with rfl | rfl
    · exact hne rfl
    · have a1 := f1 y h1
      have a2 := f2 y h2
      omega
    · have a1 := f2 y h1
      have a2 := f1 y h2
      omega
    · exact hne rfl
  · have h3 : i = 0 ∨ i = 1 := by omega
    rcases h3 with rfl | rfl
    · have a1 := f1 y h1
      omega
    · have a1 := f2 y h1
      omega
end Go.Proofs.YtnfikcegmicooabDoor
