import Derived.Test.YtmjhbckedagjjabCBk
import Derived.Test.YtmjhbckedagjjabLCf
import Derived.Test.YtmjhbckedagjjabAPB
import Derived.Test.YtmjhbckedagjjabAPR
namespace Go.Proofs.Ytmjhbckedagjjab
set_option linter.unusedVariables false
set_option linter.unusedSimpArgs false
open Go.RowKit
section
variable {w w' : World} {B M : Nat} {V U : List Dc} {T S : List (List UInt8)}
/-- two families, the second one's blocks from M on -/
theorem Fml.app (h : Fml w B V T) (hM : ∀ b, XV V b → b < M) (h2 : Fml w M U S) (hB : B ≤ M) : Fml w B (V ++ U) (T ++ S) := by
  have get : ∀ {α : Type} (X Y : List α) (i : Nat) (d : α), (X ++ Y)[i]? = some d → (i < X.length ∧ X[i]? = some d) ∨ (X.length ≤ i ∧ Y[i - X.length]? = some d) := fun X Y i d hd => by
    by_cases hi : i < X.length
    · rw [List.getElem?_append_left hi] at hd; exact .inl ⟨hi, hd⟩
    · rw [List.getElem?_append_right (by omega)] at hd; exact .inr ⟨by omega, hd⟩
  refine ⟨by rw [List.length_append, List.length_append, h.len, h2.len], fun i d t hd ht => ?_, fun i j d e b hd he hne h3 h4 => ?_⟩
  · rcases get _ _ _ _ hd with ⟨g1, g2⟩ | ⟨g1, g2⟩
    · rw [h.len] at g1
      rw [List.getElem?_append_left g1] at ht
      exact h.own i d t g2 ht
    · rw [h.len] at g1 g2
      rw [List.getElem?_append_right g1] at ht
      exact Own.base (h2.own _ d t g2 ht) hB
  · rcases get _ _ _ _ hd with ⟨g1, g2⟩ | ⟨g1, g2⟩ <;> rcases get _ _ _ _ he with ⟨g3, g4⟩ | ⟨g3, g4⟩
    · exact h.ap i j d e b g2 g4 hne h3 h4
    · have := hM b ⟨i, d, g2, h3⟩
      have := (h2.lt ⟨_, e, g4, h4⟩).1
      omega
    · have := hM b ⟨j, e, g4, h4⟩
      have := (h2.lt ⟨_, d, g2, h3⟩).1
      omega
    · exact h2.ap _ _ d e b g2 g4 (by omega) h3 h4
/-- the lists as rows of their kind -/
theorem Fml.rows (h : Fml w B V T) : RowsAt KBy w B (V.map Dc.v) (fun j => T[j]?.getD []) := by
  refine ⟨fun j v hv => ?_, ?_⟩
  · rw [List.getElem?_map] at hv
    obtain ⟨d, hd, rfl⟩ := Option.map_eq_some_iff.1 hv
    obtain ⟨t, ht, ho⟩ := h.get hd
    simp only [ht, Option.getD_some]
    exact own_KBy.2 ho
  · rw [List.pairwise_iff_getElem]
    intro i j hi hj hij b h1 h2
    rw [List.length_map] at hi hj
    rw [List.getElem_map] at h1 h2
    exact h.ap i j _ _ b (List.getElem?_eq_getElem hi) (List.getElem?_eq_getElem hj) (by omega) h1 h2
theorem KL_flat (E : List Dc) : KL.flat E = E.map Dc.v := by
  unfold Kd.flat
  induction E with
  | nil => rfl
  | cons x r ih => rw [List.flatMap_cons, ih]; rfl
theorem KL_row {v : Value} {E : List Dc} (h : OwnG KL w B v E) : w.ownsRow B 30 1 v (E.map Dc.v).length (E.map Dc.v) := by
  rw [List.length_map, ← KL_flat]
  exact h
theorem ChI.bel {F : Nat → Prop} (h : ChI F w w') (hF : ∀ b, F b → B ≤ b) (hB : B ≤ w.heap.size) : Below B w w' :=
  ⟨h.os, h.tape, h.output, h.size, fun k hk => h.block k (by omega) (fun hf => by have := hF k hf; omega)⟩
end
/-- both: two more -/
theorem both_t (w : World) (B : Nat) (va : Value) (E : List Dc) (x y : Dc) (h : OwnG KL w B va E) (hB : B ≤ w.heap.size) (hl : E.length ≤ 1000000) :
    Calls Try.prog 17 #[va, x.v, y.v] w fun e w' => ∃ v', e = .returned v' ∧ OwnG KL w' B v' (E ++ [x] ++ [y]) ∧ Chg (fun b => va.ownBlock = some b) w w' := by
  have HO : Hid (OwnG KL w B va E) := h
  have HB : Hid _ := hB
  have HL : Hid _ := hl
  obtain ⟨n, hn⟩ : ∃ n, n = E.length := ⟨_, rfl⟩
  have HN : Hid _ := hn
  have hlit : ∀ (u : World) (d : Dc), RdG KL (u.alloc (.cells #[d.v] 30)) (some ⟨u.heap.size, 0, none⟩) [d] := fun u d => rdG_lit (K := KL) (heap_alloc_new u _) rfl
  have HLIT : Hid _ := hlit
  obtain ⟨xa, xn, xc⟩ := x
  obtain ⟨ya, yn, yc⟩ := y
  clear h hB hl hn hlit
  go_enter Try.func17, Try.ntmps17
  go_wp2_with (first | (have hh := HO1; at_builtin; refine wp_appG1 (K := KL) rfl _ _ rfl B _ (E ++ [⟨xa, xn, xc⟩]) ⟨ya, yn, yc⟩ (n + 1) (by rw [List.length_append, ← HN.out]; rfl) _ 1 rfl (HO1.out.below (al (Below.refl _ _) _)) (by rfl) (HLIT.out _ _) (by have := HL.out; have := HN.out; show (n + 1 + 1) * 24 ≤ _; omega) (by have := HL.out; have := HN.out; simp only [maxLen]; omega) (Nat.le_trans HB1.out (by simp)) ?_; intro g2 c2 w2 hown2 hg2 hw2; have HO2 : Hid (OwnG KL w2 B (.slice (some ⟨g2, 0, none⟩) (n + 1 + 1) c2) (E ++ [⟨xa, xn, xc⟩] ++ [⟨ya, yn, yc⟩])) := hown2; have HG2 : Hid _ := hg2; clear hown2 hg2 hw2) | (at_builtin; refine wp_appG1 (K := KL) rfl _ _ rfl B va E ⟨xa, xn, xc⟩ n HN.out _ 1 rfl (HO.out.below (al (Below.refl _ _) _)) (by rfl) (HLIT.out _ _) (by have := HL.out; have := HN.out; show (n + 1) * 24 ≤ _; omega) (by have := HL.out; have := HN.out; simp only [maxLen]; omega) (Nat.le_trans HB.out (by simp)) ?_; intro g1 c1 w1 hown1 hg1 hw1; have HO1 : Hid (OwnG KL w1 B (.slice (some ⟨g1, 0, none⟩) (n + 1) c1) (E ++ [⟨xa, xn, xc⟩])) := hown1; have HG1 : Hid _ := hg1; have HW1 : Hid _ := hw1; have HB1 : Hid (B ≤ w1.heap.size) := (Nat.le_trans HB.out (Nat.le_trans (by simp) hg1.size)); clear hown1 hg1 hw1))
  go_ret
  refine ⟨_, rfl, HO2.out, ?_⟩
  have c1 : Chg (fun b => va.ownBlock = some b) w w1 := (Chg.of_below (al (Below.refl _ _) _)).trans (Chg.of_grown HG1.out (fun b e => e.symm)) (fun b e => .inl e.symm)
  refine (c1.trans (Chg.of_below (F := fun b => va.ownBlock = some b) (al (Below.refl _ _) _)) (fun b e => .inl e)).trans (G := fun b => b = g1) (Chg.of_grown HG2.out (fun b e => by cases e; rfl)) (fun b e => ?_)
  subst e
  rcases HW1.out with h9 | h9
  · exact .inl h9
  · exact .inr (Nat.le_trans (by simp) h9)
end Go.Proofs.Ytmjhbckedagjjab
