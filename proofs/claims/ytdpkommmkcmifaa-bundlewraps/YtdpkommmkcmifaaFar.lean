import Derived.Test.YtdpkommmkcmifaaRdr4
namespace Go.Proofs.Ytdpkommmkcmifaa
set_option linter.unusedVariables false
set_option linter.unusedSimpArgs false
open Go.RowKit
theorem Rd.far {w w' : World} {a : Option Addr} {xs : List UInt8} {r : Nat} (h : Rd w a xs) (hg : w.grownBy w' (some r)) (hr : ∀ i x, w.cell? ⟨r, i, none⟩ ≠ some (.int .u8 x)) : Rd w' a xs := by
  intro hp
  obtain ⟨b, o, e, hc⟩ := h hp
  have hne : b ≠ r := by
    intro e2
    subst e2
    exact hr _ _ (hc 0 hp)
  exact (h.grown hg (fun q hq => by rw [e] at hq; cases hq; simpa using hne)) hp
theorem BunR.far {w w' : World} {b : Bun} {ba : Option Addr} {bc : Nat} {pa : Option Addr} {pc r : Nat} (h : BunR w b ba bc pa pc) (hg : w.grownBy w' (some r)) (h1 : ∀ q, ba = some q → q.block ≠ r) (hr : ∀ i x, w.cell? ⟨r, i, none⟩ ≠ some (.int .u8 x)) : BunR w' b ba bc pa pc := by
  refine ⟨?_, h.lb, h.nb, h.rp.far hg hr, h.lp, h.np, h.ok⟩
  intro hp
  obtain ⟨g, o, e, hc⟩ := h.rb hp
  have hne : some g ≠ some r := by have := h1 _ e; simpa using this
  refine ⟨g, o, e, fun j hj => ?_⟩
  obtain ⟨a, c, c0, c1, c2, c3, hrd, hlc, hn⟩ := hc j hj
  exact ⟨a, c, hg.cell c0 hne, hg.cell c1 hne, hg.cell c2 hne, hg.cell c3 hne, hrd.far hg hr, hlc, hn⟩
theorem no8 {w : World} {r : Nat} {t : TypeId} {n0 n1 n2 n3 n4 n5 n6 n7 n8 n9 : Int} {x0 x1 : Option Addr} {y0 z0 y1 z1 : Nat} (h : w.heap[r]? = some (.cells #[.int .u64 n0, .int .u64 n1, .int .u64 n2, .int .u64 n3, .int .u64 n4, .int .u64 n5, .int .u64 n6, .int .u64 n7, .int .u64 n8, .int .u64 n9, .slice x0 y0 z0, .slice x1 y1 z1] t (0, 0))) : ∀ i x, w.cell? ⟨r, i, none⟩ ≠ some (.int .u8 x) := by
  intro i x e
  rw [cell_of_row w r i _ t _ h] at e
  have := Array.mem_of_getElem? e
  simp at this
end Go.Proofs.Ytdpkommmkcmifaa
