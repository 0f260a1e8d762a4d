import Derived.Test.YtibolgpaolnheaaQR
import Derived.Test.YtibolgpaolnheaaZQE
namespace Go.Proofs.Ytibolgpaolnheaa.Str
set_option linter.unusedVariables false
set_option linter.unusedSimpArgs false
open Go.RowKit
abbrev tIx : TypeId := 70
/-- a block of cells, but not of entries -/
def NoNum (w : World) (b : Nat) : Prop := ∃ cur t fr, w.heap[b]? = some (.cells cur t fr) ∧ t ≠ tEn
theorem RdE.kept {w w' : World} {F : Nat → Prop} {ao : Option Addr} {xs : List Ent} (h : RdE w ao xs) (hc : Chg F w w') (hF : ∀ b, F b → NoNum w b) : RdE w' ao xs := fun j hj => by
  obtain ⟨b, o, h1, h2, cur, fr, h3⟩ := h j hj
  have hb : ¬ F b := fun hf => by
    obtain ⟨cur', t', fr', h4, h5⟩ := hF b hf
    rw [h3] at h4
    injection h4 with h4
    injection h4 with h6 h7 h8
    exact h5 h7.symm
  have h9 := hc.block b (Array.getElem?_eq_some_iff.1 h3).1 hb
  exact ⟨b, o, h1, fun q v hv => cell_heap (h2 q v hv) h9, cur, fr, h9.trans h3⟩
/-- an index in memory -/
structure IdxAt (w : World) (g S : Nat) (P : List (List Ent)) (v : Value) (vs : List Value) : Prop where
  hd : w.heap[g]? = some (.cells #[.int .i64 (S : Int), v] tIx (0, 0))
  row : w.ownsRow 0 tPg 1 v P.length vs
  pg : ∀ j (hj : j < P.length), ∃ a c, vs[j]? = some (.slice a P[j].length c) ∧ P[j].length ≤ c ∧ (a = none → c = 0) ∧ RdE w a P[j]
variable {w w' : World} {g S : Nat} {P : List (List Ent)} {v : Value} {vs : List Value}
theorem IdxAt.len (h : IdxAt w g S P v vs) : vs.length = P.length := by have := h.row.1; omega
theorem IdxAt.rowBlk (h : IdxAt w g S P v vs) (b : Nat) (hb : v.ownBlock = some b) : ∃ cur, w.heap[b]? = some (.cells cur tPg (0, 0)) := by
  rcases h.row.2 with ⟨rfl, -⟩ | ⟨g', cap, cur, rfl, -, hg, -⟩
  · cases hb
  · cases hb; exact ⟨cur, hg⟩
theorem IdxAt.ne (h : IdxAt w g S P v vs) : v.ownBlock ≠ some g := fun e => by
  obtain ⟨cur, hc⟩ := h.rowBlk g e
  rw [h.hd] at hc
  injection hc with hc
  injection hc with h1 h2 h3
  exact absurd h2 (by decide)
/-- a new disk-free world in which the index's own blocks are as they were -/
theorem IdxAt.kept (h : IdxAt w g S P v vs) {F : Nat → Prop} (hc : Chg F w w') (hF : ∀ b, foot g v b → ¬ F b) (hN : ∀ b, F b → NoNum w b) : IdxAt w' g S P v vs := by
  refine ⟨(hc.block g (Array.getElem?_eq_some_iff.1 h.hd).1 (hF g (.inl rfl))).trans h.hd, ⟨h.row.1, ?_⟩, fun j hj => ?_⟩
  · rcases h.row.2 with h0 | ⟨g', cap, cur, e, hB, hg, r⟩
    · exact .inl h0
    · exact .inr ⟨g', cap, cur, e, hB, (hc.block g' (Array.getElem?_eq_some_iff.1 hg).1 (hF g' (.inr (by rw [e]; rfl)))).trans hg, r⟩
  · obtain ⟨a, c, h1, h2, h3, h4⟩ := h.pg j hj
    exact ⟨a, c, h1, h2, h3, h4.kept hc hN⟩
theorem IdxAt.below (h : IdxAt w g S P v vs) (hb : Below w.heap.size w w') : IdxAt w' g S P v vs := h.kept (F := fun _ => False) (Chg.of_below hb) (fun _ _ hf => hf) (fun _ hf => hf.elim)
theorem IdxAt.noG (h : IdxAt w g S P v vs) : NoNum w g := ⟨_, _, _, h.hd, by decide⟩
theorem IdxAt.noF (h : IdxAt w g S P v vs) (b : Nat) (hb : foot g v b) : NoNum w b := by
  rcases hb with rfl | hb
  · exact h.noG
  · obtain ⟨cur, hc⟩ := h.rowBlk b hb
    exact ⟨_, _, _, hc, by decide⟩
theorem IdxAt.rd (h : IdxAt w g S P v vs) : ∃ pa cap, v = .slice pa P.length cap ∧ P.length ≤ cap ∧ (pa = none → cap = 0) ∧ RdP w pa P ∧ PgV w (.pointer (some ⟨g, 0, none⟩)) pa P.length cap := by
  have hcell : w.cell? ⟨g, 1, none⟩ = some v := by rw [cell_of_row _ _ _ _ _ _ h.hd]; rfl
  have hrow := h.row
  rcases h.row.2 with ⟨rfl, h0⟩ | ⟨g', cap, cur, rfl, hB, hg, hn, hm, r⟩
  · refine ⟨none, 0, by rw [h0], by omega, fun _ => rfl, fun j hj => by omega, .inr ⟨g, rfl, by rw [h0]; exact hcell⟩⟩
  · refine ⟨_, cap, rfl, hn, (fun e => by cases e), fun j hj => ?_, .inr ⟨g, rfl, hcell⟩⟩
    obtain ⟨a, c, h1, h2, h3, h4⟩ := h.pg j hj
    exact ⟨g', 0, rfl, a, c, by rw [Nat.zero_add, World.ownsRow.cellAt hrow j (by omega), h1], h2, h3, h4⟩
end Go.Proofs.Ytibolgpaolnheaa.Str
