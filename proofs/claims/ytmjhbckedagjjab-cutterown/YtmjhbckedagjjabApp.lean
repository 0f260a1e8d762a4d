import Derived.Test.YtmjhbckedagjjabCat
namespace Go.Proofs.Ytmjhbckedagjjab
set_option linter.unusedVariables false
set_option linter.unusedSimpArgs false
open Go.RowKit

theorem cells2 {w : World} {b : Nat} {p q : Part} (h0 : w.cell? ⟨b, 0, none⟩ = some p.v) (h1 : w.cell? ⟨b, 1, none⟩ = some q.v) (hp : p.ok w) (hq : q.ok w) :
    ∀ j (h : j < [p, q].length), w.cell? ⟨b, 0 + j, none⟩ = some [p, q][j].v ∧ [p, q][j].ok w := by
  intro j hj
  match j, hj with
  | 0, _ => exact ⟨h0, hp⟩
  | 1, _ => exact ⟨h1, hq⟩
theorem catL2 (p q : Part) : catL [p, q] = p.xs ++ q.xs := by simp [catL]

end Go.Proofs.Ytmjhbckedagjjab
