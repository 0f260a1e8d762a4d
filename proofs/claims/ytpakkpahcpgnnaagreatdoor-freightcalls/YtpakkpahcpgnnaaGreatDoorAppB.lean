import Derived.Test.YtpakkpahcpgnnaaGreatDoorCuP
set_option linter.unusedVariables false
set_option linter.unusedSimpArgs false
namespace Go.Proofs.YtpakkpahcpgnnaaGreatDoor
open Go.RowKit
theorem cells3 {w : World} {b : Nat} {p q r : Part} (h0 : w.cell? ⟨b, 0, none⟩ = some p.v) (h1 : w.cell? ⟨b, 1, none⟩ = some q.v) (h2 : w.cell? ⟨b, 2, none⟩ = some r.v) (hp : p.ok w) (hq : q.ok w) (hr : r.ok w) :
 ∀ j (h : j < [p, q, r].length), w.cell? ⟨b, 0 + j, none⟩ = some [p, q, r][j].v ∧ [p, q, r][j].ok w := by
 intro j hj
 match j, hj with
 | 0, _ => exact ⟨h0, hp⟩
 | 1, _ => exact ⟨h1, hq⟩
 | 2, _ => exact ⟨h2, hr⟩
end Go.Proofs.YtpakkpahcpgnnaaGreatDoor
