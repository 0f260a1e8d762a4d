import Derived.Test.YtmjhbckedagjjabRCa
namespace Go.Proofs.Ytmjhbckedagjjab
set_option linter.unusedVariables false
set_option linter.unusedSimpArgs false
open Go.RowKit
section
variable {w w' : World}
/-- what the loop of the document's Cut keeps -/
def DRel (xs : Seg) (m : Nat) (w : World) (v f : Value) (wr : World) : Prop := ∃ (q r : Nat) (E : List Dc), f = .int .i64 ((q * m + r : Nat) : Int) ∧ r < m ∧ q * m + r ≤ xs.length ∧ Lists wr w.heap.size v E (stT xs m q r) ∧ Below w.heap.size w wr
theorem Lists.rowKept {w w1 : World} {B g n c : Nat} {E : List Dc} {T : List Seg} (h : Lists w B (.slice (some ⟨g, 0, none⟩) n c) E T) (hn : n = E.length) {i : Nat} {d : Dc} (hd : E[i]? = some d) (hg : w.grownBy w1 d.v.ownBlock) : w1.cell? ⟨g, i, none⟩ = some d.v ∧ w1.frozen? ⟨g, i, none⟩ = false := by
  have h8 : w1.heap[g]? = w.heap[g]? := hg.block g (h.row.lt' (b := g) rfl).2 (fun e => by
    obtain ⟨cur, h1⟩ := h.row.at_ (b := g) rfl
    obtain ⟨C, h2⟩ := h.fml.ty ⟨i, d, hd, e.symm⟩
    exact absurd (ty_of h1 h2) (by decide))
  exact ⟨(World.cell?_of_block h8).trans (h.cellAt hn hd), (World.frozen?_of_block h8).trans (h.row.fz i)⟩
theorem rd_cell {w : World} {b o : Nat} {xs : List UInt8} (h : Rd w (some ⟨b, o, none⟩) xs) {i : Nat} {y : UInt8} (hy : xs[i]? = some y) : w.cell? ⟨b, o + i, none⟩ = some (.int .u8 (y.toNat : Int)) := by
  obtain ⟨hi, e⟩ := List.getElem?_eq_some_iff.1 hy
  obtain ⟨b2, o2, e2, h8⟩ := h (by omega)
  cases e2
  rw [h8 i hi, e]
theorem set_last (A : List Seg) (x y : Seg) : (A ++ [x]).set A.length y = A ++ [y] := by
  rw [List.set_append_right _ _ (Nat.le_refl _)]
  simp
end
end Go.Proofs.Ytmjhbckedagjjab
