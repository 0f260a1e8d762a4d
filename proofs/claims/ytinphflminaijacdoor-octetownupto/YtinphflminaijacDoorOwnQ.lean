import Derived.Test.YtinphflminaijacDoorOwnP
namespace Go.Proofs.YtinphflminaijacDoor
set_option linter.unusedVariables false
set_option linter.unusedSimpArgs false
open Go.RowKit
/-- what asks handed out -/
structure Ans (w w1 : World) (g : Nat) (qs : List (Value × List UInt8)) (L : List (List UInt8)) : Prop where
  eq : qs.map (·.2) = L
  len : qs.length = 7
  cells : ∀ j (h : j < (qs.map (·.1)).length), w1.cell? ⟨g, j, none⟩ = some (qs.map (·.1))[j]
  one : ∀ u ∈ qs.map (·.1), u.oneCell' = true
  fam : Fam w1 w.heap.size (qs.map fun p => bRow p.1 p.2)
  bel : Below w.heap.size w w1
theorem asks_ans (ao : Option Addr) (cap : Nat) (xs : List UInt8) (n : Nat) (at_ : Int) (mask : Nat) (w : World) (hx : Rd w ao xs) (hnil : ao = none → cap = 0) (hl : xs.length ≤ 1048576) (hn : n < 18446744073709551616) (ha0 : -9223372036854775808 ≤ at_) (ha1 : at_ ≤ 9223372036854775807) (hm : (mask : Int) ≤ 4294967295) (ht : TabOk w) :
    Calls Tryd.prog 14 #[.slice ao xs.length cap, .int .u64 n, .int .i64 at_, .int .u32 mask] w fun e w' => ∃ (g : Nat) (qs : List (Value × List UInt8)), e = .returned (.slice (some ⟨g, 0, none⟩) 7 7) ∧ Ans w w' g qs (ansL xs n at_ mask) := by
  refine (asks_any ao cap xs n at_ mask w hx hnil hl hn ha0 ha1 hm ht).mono ?_
  rintro e w' ⟨g, ps, he, h1, h2, h3, h4⟩
  have hlen : ps.length = 7 := by
    have := congrArg List.length h1
    simpa [ansL] using this
  refine ⟨g, ps, he, h1, hlen, fun j hj => ?_, fun u hu => ?_, h3, h4⟩
  · rw [List.getElem_map]
    exact h2 j (by simpa using hj)
  · obtain ⟨p, hp, rfl⟩ := List.mem_map.1 hu
    obtain ⟨j, hj, rfl⟩ := List.getElem_of_mem hp
    have h5 := h3.own j (by simpa using hj)
    rw [List.getElem_map] at h5
    obtain ⟨b, m, d, e⟩ := own_shape (bRow_at.1 h5)
    rw [e]
    rfl
theorem St.next {W w w1 w2 : World} {va vw : Value} {ps qs : List (Value × List UInt8)} {ws : List (List UInt8)} {g G l cap : Nat} {L : List (List UInt8)} (h : St W w va vw ps ws) (hA : Ans w w1 g qs L) (hl : ps.length + 7 = l)
    (ho : w2.ownsRow W.heap.size 25 1 (.slice (some ⟨G, 0, none⟩) l cap) l (ps.map (·.1) ++ qs.map (·.1))) (hg : w1.grownBy w2 va.ownBlock) (hlies : va.ownBlock = some G ∨ G = w1.heap.size) : St W w2 (.slice (some ⟨G, 0, none⟩) l cap) vw (ps ++ qs) ws := by
  refine h.asks hA.bel hA.fam hg ?_ ?_
  · rw [hA.len, hl]; exact ho
  · rcases hlies with h1 | h1
    · exact .inl h1.symm
    · right; intro g' e; cases e; rw [h1]; exact Nat.le_refl _
theorem bst_len32 (at_ : Int) (mask : Nat) (xs : List UInt8) : (bst at_ mask xs 32).length = xs.length := by
  exact bst_len _ _ _ _
theorem ans_len (xs : List UInt8) (n : Nat) (at_ : Int) (mask : Nat) (hl : xs.length ≤ 1048576) (hn : n < 18446744073709551616) : ∀ l ∈ ansL xs n at_ mask, l.length ≤ 3000000 := by
  have h1 := dg_len n hn
  have h2 := dg_len xs.length (by omega)
  have h3 := bst_len32 at_ mask xs
  intro l hl'
  simp only [ansL, List.mem_cons, List.not_mem_nil, or_false] at hl'
  rcases hl' with rfl | rfl | rfl | rfl | rfl | rfl | rfl
  all_goals first | omega | (simp only [List.length_append, sealL, List.length_cons, List.length_nil]; omega)
theorem ans_7 (xs : List UInt8) (n : Nat) (at_ : Int) (mask : Nat) : (ansL xs n at_ mask).length = 7 := rfl
/-- what is known of the 21 answers -/
def AllF (ps : List (Value × List UInt8)) (xs ys : List UInt8) : Prop :=
  ∃ hl : ps.length = 21, (∀ k (h : k < 7), ps[k].2 = ps[14 + k].2) ∧ ps[2].2 = xs ++ sealL xs ∧ ps[9].2 = ys ++ sealL ys ∧ ∀ i (h : i < ps.length), ps[i].2.length ≤ 3000000
theorem ans_all {q1 q2 q3 : List (Value × List UInt8)} (xs ys : List UInt8) (n : Nat) (at_ : Int) (mask : Nat) (hlx : xs.length ≤ 1048576) (hly : ys.length ≤ 1048576) (hn : n < 18446744073709551616) (h1 : q1.map (·.2) = ansL xs n at_ mask) (h2 : q2.map (·.2) = ansL ys n at_ mask) (h3 : q3.map (·.2) = ansL xs n at_ mask) (ps : List (Value × List UInt8)) (hps : [] ++ q1 ++ q2 ++ q3 = ps) :
    AllF ps xs ys := by
  have hm : ps.map (·.2) = ansL xs n at_ mask ++ ansL ys n at_ mask ++ ansL xs n at_ mask := by
    rw [← hps, List.nil_append, List.map_append, List.map_append, h1, h2, h3]
  have hl : ps.length = 21 := by
    have := congrArg List.length hm
    simpa [ansL] using this
  have hg : ∀ i (h : i < ps.length), ps[i].2 = (ansL xs n at_ mask ++ ansL ys n at_ mask ++ ansL xs n at_ mask)[i]'(by simp [ansL]; omega) := by
    intro i hi
    have e : (ps.map (·.2))[i]'(by simpa using hi) = ps[i].2 := by rw [List.getElem_map]
    rw [← e]
    simp only [hm]
  refine ⟨hl, fun k hk => ?_, ?_, ?_, fun i hi => ?_⟩
  · rw [hg k (by omega), hg (14 + k) (by omega)]
    have hk' : k = 0 ∨ k = 1 ∨ k = 2 ∨ k = 3 ∨ k = 4 ∨ k = 5 ∨ k = 6 := by omega
    rcases hk' with rfl | rfl | rfl | rfl | rfl | rfl | rfl <;> rfl
  · rw [hg 2 (by omega)]; rfl
  · rw [hg 9 (by omega)]; rfl
  · rw [hg i hi]
    have hmem := List.getElem_mem (l := ansL xs n at_ mask ++ ansL ys n at_ mask ++ ansL xs n at_ mask) (n := i) (by simp [ansL]; omega)
    rw [List.mem_append, List.mem_append] at hmem
    rcases hmem with (h | h) | h
    · exact ans_len xs n at_ mask hlx hn _ h
    · exact ans_len ys n at_ mask hly hn _ h
    · exact ans_len xs n at_ mask hlx hn _ h
end Go.Proofs.YtinphflminaijacDoor
