import Derived.Test.YtibolgpaolnheabNUp
namespace Go.Proofs.Ytibolgpaolnheab
set_option linter.unusedVariables false
set_option linter.unusedSimpArgs false
open Go.RowKit Go.Shelf
/-- the program's index and the document's, both there or both not, with the same pages -/
def Duo (B : Nat) (u : World) (x y : Value) (F : Nat → Prop) (k : Nat) : Prop :=
  (x = .pointer none ∧ y = .pointer none ∧ F = fun _ => False) ∨
  ∃ (g S : Nat) (P : List (List Ent)) (v : Value) (vs : List Value) (r : Nat) (v2 : Value) (vs2 : List Value), x = .pointer (some ⟨g, 0, none⟩) ∧ y = .pointer (some ⟨r, 0, none⟩) ∧ (4 ≤ S ∧ S ≤ 64) ∧ IdxAt u g S P v vs ∧ RefI u r S P v2 vs2 ∧ Tid S P ∧ P.flatten.length ≤ k ∧ (F = fun b => foot g v b ∨ footR r v2 vs2 b) ∧ B ≤ g ∧ B ≤ r ∧ ∀ b, F b → B ≤ b
variable {B k : Nat} {u u' : World} {x y : Value} {F G : Nat → Prop}
theorem Duo.mono (h : Duo B u x y F k) {k' : Nat} (hk : k ≤ k') : Duo B u x y F k' := by
  rcases h with h | ⟨g, S, P, v, vs, r, v2, vs2, h1, h2, h3, h4, h5, h6, h7, h8, h9⟩
  · exact .inl h
  · exact .inr ⟨g, S, P, v, vs, r, v2, vs2, h1, h2, h3, h4, h5, h6, Nat.le_trans h7 hk, h8, h9⟩
theorem Duo.ge (h : Duo B u x y F k) (b : Nat) (hb : F b) : B ≤ b := by
  rcases h with ⟨-, -, rfl⟩ | ⟨g, S, P, v, vs, r, v2, vs2, -, -, -, -, -, -, -, -, -, -, h9⟩
  · exact hb.elim
  · exact h9 b hb
theorem Duo.lt (h : Duo B u x y F k) (b : Nat) (hb : F b) : b < u.heap.size := by
  rcases h with ⟨-, -, rfl⟩ | ⟨g, S, P, v, vs, r, v2, vs2, -, -, -, h4, h5, -, -, rfl, -⟩
  · exact hb.elim
  · rcases hb with hb | hb
    · exact h4.lt b hb
    · exact h5.lt b hb
theorem Duo.noF (h : Duo B u x y F k) (b : Nat) (hb : F b) : NoNum u b := by
  rcases h with ⟨-, -, rfl⟩ | ⟨g, S, P, v, vs, r, v2, vs2, -, -, -, h4, h5, -, -, rfl, -⟩
  · exact hb.elim
  · rcases hb with hb | hb
    · exact h4.noF b hb
    · obtain ⟨c2, t2, e2, ht2⟩ := h5.ty b hb
      exact ⟨_, _, _, e2, by rcases ht2 with h9 | h9 | h9 <;> rw [h9] <;> decide⟩
theorem Duo.kept (h : Duo B u x y F k) (hc : Chg G u u') (hd : ∀ b, F b → ¬ G b) (hn : ∀ b, G b → NoNum u b) : Duo B u' x y F k := by
  rcases h with h | ⟨g, S, P, v, vs, r, v2, vs2, h1, h2, h3, h4, h5, h6, h7, rfl, h9⟩
  · exact .inl h
  · exact .inr ⟨g, S, P, v, vs, r, v2, vs2, h1, h2, h3, h4.kept hc (fun b hb => hd b (.inl hb)) hn, h5.kept (fun b hb => hc.block b (h5.lt b hb) (hd b (.inr hb))), h6, h7, rfl, h9⟩
theorem Duo.below (h : Duo B u x y F k) (hb : Below u.heap.size u u') : Duo B u' x y F k := h.kept (G := fun _ => False) (Chg.of_below hb) (fun _ _ h => h) (fun _ h => h.elim)
theorem begin_duo (z : Int) (w : World) (hB : B ≤ w.heap.size) : Calls Try.prog 13 #[.int .i64 z] w fun e w' => ∃ x y F, e = .returned (.tuple #[x, y, .bool true]) ∧ Duo B w' x y F 0 ∧ (∀ b, F b → w.heap.size ≤ b) ∧ Below w.heap.size w w' := by
  by_cases hz : 4 ≤ z ∧ z ≤ 64
  · obtain ⟨S, hSz⟩ : ∃ S : Nat, z = (S : Int) := ⟨z.toNat, by omega⟩
    subst hSz
    refine Calls.mono (begin_t S (by omega) w) ?_
    rintro e w2 ⟨g, r, rfl, hi2, hr2, hg2, hrr2, hb2⟩
    have hF : ∀ b, (foot g (.slice none 0 0) b ∨ footR r (.slice none 0 0) [] b) → w.heap.size ≤ b := by
      rintro b ((rfl | hb) | (rfl | hb | ⟨x, hx, hb⟩))
      · exact hg2
      · cases hb
      · exact hrr2
      · cases hb
      · cases hx
    refine ⟨_, _, _, rfl, .inr ⟨g, S, [], _, _, r, _, _, rfl, rfl, by omega, hi2, hr2, ⟨⟨(fun q hq => (by cases hq)), List.Pairwise.nil⟩, (fun q hq => (by cases hq))⟩, Nat.le_refl _, rfl, Nat.le_trans hB hg2, Nat.le_trans hB hrr2, fun b hb => Nat.le_trans hB (hF b hb)⟩, hF, hb2⟩
  · refine Calls.mono (begin_no z (by omega) w) ?_
    rintro e w2 ⟨rfl, rfl⟩
    exact ⟨_, _, _, rfl, .inl ⟨rfl, rfl, rfl⟩, fun b hb => hb.elim, Below.refl _ _⟩
/-- a call on both, and what same says of the answers -/
theorem ask_duo (h : Duo B u x y F k) (hk : k ≤ 4398046511104) (hB : B ≤ u.heap.size) (kd : Int) (s1 s2 n : Nat) :
    Calls Try.prog 10 #[x, opw kd s1 s2 n] u fun e u1 => ∃ a M c, e = .returned (.slice a M c) ∧ Below B u u1 ∧
      Calls Try.prog 11 #[y, opw kd s1 s2 n] u1 fun e u2 => ∃ a' M' c', e = .returned (.slice a' M' c') ∧ Below B u u2 ∧
        (Calls Try.prog 12 #[.slice a M c, .slice a' M' c'] u2 fun e u3 => e = .returned (.bool true) ∧ Below u2.heap.size u2 u3) ∧
        ∃ F', Duo B u2 x y F' (k + 1) ∧ (∀ b, F' b → F b ∨ u.heap.size ≤ b) ∧ Chg F u u2 := by
  rcases h with ⟨rfl, rfl, rfl⟩ | ⟨g, S, P, v, vs, r, v2, vs2, rfl, rfl, h3, h4, h5, h6, h7, rfl, hBg, hBr, h9⟩
  · refine Calls.mono (ask0_t (x := .pointer none) (.inl rfl) kd s1 s2 n) ?_
    rintro e u1 ⟨va, rfl, hua, hb1⟩
    obtain ⟨aa, ca, rfl, -⟩ := OwnU.val hua
    refine ⟨_, _, _, rfl, Below.mono hb1 hB, ?_⟩
    refine Calls.mono (doc0_t kd s1 s2 n u1) ?_
    rintro e u2 ⟨vb, rfl, hub, hb2⟩
    obtain ⟨ab, cb, rfl, -⟩ := OwnU.val hub
    have hb12 : Below u.heap.size u u2 := below_next hb1 hb2
    exact ⟨_, _, _, rfl, Below.mono hb12 hB, same_t u2 _ (OwnU.below hua hb2) hub (by have := nilL_len kd; omega), _, .inl ⟨rfl, rfl, rfl⟩, (fun b hb => hb.elim), Chg.of_below hb12⟩
  · have hPf : P.flatten.length ≤ 4398046511104 := by omega
    have hPl : P.length ≤ 4398046511104 := Nat.le_trans (flat_ge h6.1.1) hPf
    refine Calls.mono (ask_t h4 h6 h3 hPl kd s1 s2 n) ?_
    rintro e u1 ⟨p, i, ok, v4, vs4, va, hpi, rfl, hua, hi4, hli, hch⟩
    obtain ⟨aa, ca, hva, -⟩ := OwnU.val hua
    subst hva
    have hr4 : RefI u1 r S P v2 vs2 := h5.chgI h4 hch
    have hb1 : Below B u u1 := hch.below (fun b hb => h9 b (.inl hb)) hB
    refine ⟨_, _, _, rfl, hb1, ?_⟩
    refine Calls.mono (doc_t hr4 h6 h3 hPf kd s1 s2 n) ?_
    rintro e u2 ⟨p', i', ok', v5, vs5, vb, hpi', rfl, hub, hr5, hft, hch5⟩
    obtain ⟨rfl, rfl, rfl⟩ := hpi.uniq hpi'
    obtain ⟨ab, cb, hvb, -⟩ := OwnU.val hub
    subst hvb
    have hb2 : Below B u u2 := hb1.trans (hch5.below (fun b hb => h9 b (.inr hb)) (Nat.le_trans hB hb1.size))
    have htn := next_turn (kd := kd) (n := n) hpi h6 (by omega)
    have hal : (ansL P kd (s1, s2) n p i ok).length ≤ 4398046511104000 := by have h9 := ansL_len (P := P) kd (s1, s2) n p i ok; omega
    have hF : ∀ b, (foot g v4 b ∨ footR r v5 vs5 b) → (foot g v b ∨ footR r v2 vs2 b) ∨ u.heap.size ≤ b := by
      rintro b ((rfl | hb) | hb)
      · exact .inl (.inl (.inl rfl))
      · rcases hli with e9 | ⟨b', e8, e9⟩
        · exact .inl (.inl (.inr (by rw [← e9]; exact hb)))
        · rw [hb] at e8; cases e8; exact .inr e9
      · rcases hft b hb with e9 | e9
        · exact .inl (.inr e9)
        · exact .inr (Nat.le_trans hch.size e9)
    refine ⟨_, _, _, rfl, hb2, same_t u2 _ (hua.chgR hr4 hch5) hub hal, _, .inr ⟨g, S, _, v4, vs4, r, v5, vs5, rfl, rfl, h3, hi4.chgR hr4 hch5, hr5, htn.tid, ?_, rfl, hBg, hBr, ?_⟩, hF, ?_⟩
    · rw [htn.flat]
      have e9 := rowTurn_len kd ⟨(s1, s2), n⟩ P.flatten
      omega
    · intro b hb
      rcases hF b hb with e9 | e9
      · exact h9 b e9
      · omega
    · exact (hch.mono (fun b hb => .inl hb)).trans (hch5.mono (fun b hb => .inr hb)) (fun b hb => .inl hb)
theorem load_op (u : World) (b o : Nat) (z : Stp) (h : u.rangeAt b o (opv z)) : (Instr.loadAt tOp (.pointer (some ⟨b, o, none⟩))).run Try.prog u = .ok (.agg (opv z).toArray) u :=
  run_loadAt_mid u b o _ (opv z) _ h Try.underlying35 rfl info_op4
end Go.Proofs.Ytibolgpaolnheab
