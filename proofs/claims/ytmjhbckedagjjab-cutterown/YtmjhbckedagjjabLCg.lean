import Derived.Test.YtmjhbckedagjjabLCe
namespace Go.Proofs.Ytmjhbckedagjjab
set_option linter.unusedVariables false
set_option linter.unusedSimpArgs false
open Go.RowKit
theorem putS_no {St : Option (List Seg)} {i : Int} {xs : Seg} (h : putE St i xs ≠ 0) : putS St i xs = St := by
  rcases St with _ | S
  · rfl
  · unfold putE at h
    unfold putS
    simp only at h ⊢
    split
    · rfl
    · rename_i h1
      rw [if_neg h1] at h
      split
      · rename_i h2
        rw [if_pos h2] at h
        split
        · rename_i h3
          rw [if_pos h3] at h
          exact absurd rfl h
        · rfl
      · rfl
/-- what is taken -/
theorem putE_ok {St : Option (List Seg)} {i : Int} {xs : Seg} (h : putE St i xs = 0) : ∃ S, St = some S ∧ ∃ k : Nat, i = (k : Int) ∧ k < S.length ∧ S[k]? = some [] ∧ 0 < xs.length ∧ xs.length ≤ 1024 ∧ fitS (S.set k xs) = true ∧ putS St i xs = some (S.set k xs) := by
  rcases St with _ | S
  · cases h
  · have h' := h
    unfold putE at h
    simp only at h
    split at h
    · cases h
    · rename_i h1
      split at h
      · rename_i h2
        split at h
        · rename_i h3
          obtain ⟨k, rfl⟩ : ∃ k : Nat, i = (k : Int) := ⟨i.toNat, by omega⟩
          have hk : k < S.length := by omega
          rw [Int.toNat_natCast] at h2 h3
          have hk2 : S[k]? = some [] := by
            rw [List.getElem?_eq_getElem hk] at h2 ⊢
            simp only [Option.getD_some] at h2
            rw [List.eq_nil_of_length_eq_zero h2]
          refine ⟨S, rfl, k, rfl, hk, hk2, by omega, by omega, h3, ?_⟩
          rw [(putE_free (xs := xs) hk (by omega) (by omega) hk2).2, if_pos h3]
        · cases h
      · split at h <;> cases h
theorem put_twice {St : Option (List Seg)} {i : Int} {xs : Seg} (h : putE St i xs = 0) : putE (putS St i xs) i xs = 3 ∧ putS (putS St i xs) i xs = putS St i xs := by
  obtain ⟨S, rfl, k, rfl, hk, hy, h0, h1, hf, e⟩ := putE_ok h
  rw [e]
  have h9 := putE_at (S := S.set k xs) (k := k) (xs := xs) (ys := xs) (by rw [List.length_set]; exact hk) h0 h1 (List.getElem?_set_self hk) (fun e => by rw [e] at h0; simp at h0)
  rw [if_pos rfl] at h9
  exact h9
/-- two boxes, apart; what X names is none of theirs -/
structure Dup (w0 : World) (X : Nat → Prop) (w : World) (pv cv : Option Addr) (St Su : Option (List Seg)) : Prop where
  ex : ∃ F I, PBx w pv St F ∧ PBx w cv Su I ∧ (∀ b, F b → I b → False) ∧ (∀ b, F b → w0.heap.size ≤ b ∧ ¬ X b) ∧ ∀ b, I b → w0.heap.size ≤ b ∧ ¬ X b
  bel : Below w0.heap.size w0 w
section
variable {w0 w w' : World} {X Y : Nat → Prop} {pv cv : Option Addr} {St Su : Option (List Seg)}
theorem Dup.swap (h : Dup w0 X w pv cv St Su) : Dup w0 X w cv pv Su St := by
  obtain ⟨F, I, h1, h2, h3, h4, h5⟩ := h.ex
  exact ⟨⟨I, F, h2, h1, fun b hi hf => h3 b hf hi, h5, h4⟩, h.bel⟩
theorem Dup.excl (h : Dup w0 X w pv cv St Su) (hb : Below w.heap.size w w') (hY : ∀ b, Y b → w.heap.size ≤ b) : Dup w0 Y w' pv cv St Su := by
  obtain ⟨F, I, h1, h2, h3, h4, h5⟩ := h.ex
  exact ⟨⟨F, I, h1.below hb, h2.below hb, h3, fun b hf => ⟨(h4 b hf).1, fun hy => by have := h1.lt b hf; have := hY b hy; omega⟩, fun b hf => ⟨(h5 b hf).1, fun hy => by have := h2.lt b hf; have := hY b hy; omega⟩⟩, h.bel.trans (hb.mono h.bel.size)⟩
theorem Dup.below (h : Dup w0 X w pv cv St Su) (hX : ∀ b, X b → b < w.heap.size) (hb : Below w.heap.size w w') : Dup w0 X w' pv cv St Su := by
  obtain ⟨F, I, h1, h2, h3⟩ := h.ex
  exact ⟨⟨F, I, h1.below hb, h2.below hb, h3⟩, h.bel.trans (hb.mono h.bel.size)⟩
theorem Dup.one (h : Dup w0 X w pv cv St Su) : One w0 w pv St := by
  obtain ⟨F, I, h1, h2, h3, h4, h5⟩ := h.ex
  exact ⟨⟨F, h1, fun b hb => (h4 b hb).1⟩, h.bel⟩
theorem Dup.put (h : Dup w0 X w pv cv St Su) (hX : ∀ b, X b → b < w.heap.size) (i : Int) (ao : Option Addr) (n cap : Nat) (xs : Seg) (hn : n = xs.length) (hx : Rd w ao xs) (hnil : ao = none → cap = 0) (hl : n ≤ 140737488355328) :
    Calls Try.prog 14 #[.pointer pv, .int .i64 i, .slice ao n cap] w fun e w' => e = .returned (.int .i64 (putE St i xs)) ∧ Dup w0 X w' pv cv (putS St i xs) Su ∧ (∀ b, X b → w'.heap[b]? = w.heap[b]?) ∧ w.heap.size ≤ w'.heap.size := by
  obtain ⟨F, I, h1, h2, h3, h4, h5⟩ := h.ex
  refine Calls.mono (pput h1 i ao n cap xs hn hx hnil hl) ?_
  rintro e w' ⟨rfl, ⟨F', h6, h7⟩, h8⟩
  refine ⟨rfl, ⟨⟨F', I, h6, h2.kept h8.size (fun b hb => h8.block b (h2.lt b hb) (fun hf => h3 b hf hb)), fun b hf hi => ?_, fun b hf => ?_, h5⟩, h.bel.trans (h8.below (fun b hb => (h4 b hb).1) h.bel.size)⟩, fun b hb => h8.block b (hX b hb) (fun hf => (h4 b hf).2 hb), h8.size⟩
  · rcases h7 b hf with h9 | h9
    · exact h3 b h9 hi
    · have := h2.lt b hi
      omega
  · rcases h7 b hf with h9 | h9
    · exact h4 b h9
    · exact ⟨Nat.le_trans h.bel.size h9, fun hx => by have := hX b hx; omega⟩
theorem Dup.new (h : One w0 w pv St) (r : Int) : Calls Try.prog 13 #[.int .i64 r] w fun e w' => ∃ cv, e = .returned (.tuple #[.pointer cv, .int .i64 (newEr r)]) ∧ (cv = none ↔ newSt r = none) ∧ Dup w0 (fun _ => False) w' pv cv St (newSt r) := by
  obtain ⟨F, h1, h2⟩ := h.ex
  refine Calls.mono (pnew r w) ?_
  rintro e w' ⟨cv, I, rfl, h0, h3, h4, h5⟩
  exact ⟨cv, rfl, h0, ⟨F, I, h1.below h5, h3, fun b hf hi => by have := h1.lt b hf; have := h4 b hi; omega, fun b hb => ⟨h2 b hb, id⟩, fun b hb => ⟨Nat.le_trans h.bel.size (h4 b hb), id⟩⟩, h.bel.trans (h5.mono h.bel.size)⟩
end
theorem scells {w : World} {g : Nat} {a b : Value} {t : TypeId} {fr : Nat × Nat} (h : w.heap[g]? = some (.cells #[a, b] t fr)) : w.cell? ⟨g, 0, none⟩ = some a ∧ w.cell? ⟨g, 1, none⟩ = some b :=
  ⟨by rw [cell_of_row _ _ _ _ _ _ h]; rfl, by rw [cell_of_row _ _ _ _ _ _ h]; rfl⟩
abbrev tSc : TypeId := 24
end Go.Proofs.Ytmjhbckedagjjab
