import Derived.Test.YtjigbopkmffjaaaDoorCat
namespace Go.Proofs.YtjigbopkmffjaaaDoor
set_option linter.unusedVariables false
set_option linter.unusedSimpArgs false
open Go.RowKit

theorem cells2 {w : World} {b : Nat} {p q : Part} (h0 : w.cell? ⟨b, 0, none⟩ = some p.v) (h1 : w.cell? ⟨b, 1, none⟩ = some q.v) (hp : p.ok w) (hq : q.ok w) :
    ∀ j (h : j < [p, q].length), w.cell? ⟨b, 0 + j, none⟩ = some [p, q][j].v ∧ [p, q][j].ok w := by
  intro j hj
  match j, hj with
  | 0, _ => exact ⟨h0, hp⟩
  | 1, _ => exact ⟨h1, hq⟩
theorem catL2 (p q : Part) : catL [p, q] = p.xs ++ q.xs := by simp [catL]

set_option maxRecDepth 20000 in
set_option maxHeartbeats 400000 in
theorem appendNumber_any (ao : Option Addr) (cap : Nat) (xs : List UInt8) (n : Nat) (w : World) (hx : Rd w ao xs) (hnil : ao = none → cap = 0) (hl : xs.length + 10 ≤ 140737488355328) (hn : n < 18446744073709551616) :
    Calls Tryd.prog 62 #[.slice ao xs.length cap, .int .u64 n] w fun e w' => ∃ v, e = .returned v ∧ Own w' w.heap.size v (xs ++ dg n) ∧ Below w.heap.size w w' := by
  have hdl := dg_len n hn
  have HN : Hid (ao = none → cap = 0) := hnil
  clear hnil
  go_enter Tryd.func62, Tryd.ntmps62
  go_wp2_with fail
  refine (digits_any n w hn).mono ?_
  rintro e w1 ⟨k, hk, rfl, hr1, hb1, hs1⟩
  have HK : Hid _ := hk
  clear hk
  go_wp2_with fail
  refine (concat_any w1.heap.size 0 2 [⟨ao, cap, xs⟩, ⟨some ⟨w.heap.size, k, none⟩, (dg n).length, dg n⟩] _ (by simp) (cells2 (by simp [Part.v]) (by simp [Part.v]) ⟨(hx.below hb1).alloc _, HN.out⟩ ⟨hr1.alloc _, fun h => by cases h⟩) (by rw [catL2, List.length_append]; simp only; omega)).mono ?_
  rintro e w2 ⟨v, rfl, hown, hb2⟩
  go_wp2
  go_ret
  rw [catL2] at hown
  have hz : w.heap.size ≤ (w1.alloc (.cells #[.slice ao xs.length cap, .slice (some ⟨w.heap.size, k, none⟩) (dg n).length (dg n).length] 23)).heap.size := by simp; omega
  exact ⟨v, rfl, hown.base hz, (hb1.alloc (by omega) _).trans (hb2.mono hz)⟩
end Go.Proofs.YtjigbopkmffjaaaDoor
