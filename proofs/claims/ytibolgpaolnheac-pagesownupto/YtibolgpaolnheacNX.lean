import Derived.Test.YtibolgpaolnheacNR
import Derived.Test.YtibolgpaolnheacQA
import Derived.Deep.CutRange
namespace Go.Proofs.Ytibolgpaolnheac
set_option linter.unusedVariables false
set_option linter.unusedSimpArgs false
open Go.RowKit
abbrev tRe : TypeId := 94
abbrev tRs : TypeId := 61
abbrev tRr : TypeId := 69
abbrev tRi : TypeId := 71
theorem info_re : (Try.prog.info? tRe).map (fun i => (i.zero, i.size, i.bytes)) = some (some (.agg #[.int .u64 0, .int .u64 0, .int .u64 0]), 3, 24) := by kernel_rfl
theorem info_re3 : (Try.prog.info? tRe).map (·.size) = some 3 := by kernel_rfl
theorem load_re (u : World) (b o : Nat) (e : Ent) (h : u.rangeAt b o (ev e)) : (Instr.loadAt tRe (.pointer (some ⟨b, o, none⟩))).run Try.prog u = .ok (ea e) u :=
  run_loadAt_mid u b o _ (ev e) _ h Try.underlying94 rfl info_re3
/-- a page of the document's index that can be read -/
def RdX (w : World) (ao : Option Addr) (xs : List Ent) : Prop := ∀ j (hj : j < xs.length), ∃ b o, ao = some ⟨b, o, none⟩ ∧ w.rangeAt b (o + j * 3) (ev xs[j])
/-- its pages -/
def RdXP (w : World) (pa : Option Addr) (P : List (List Ent)) : Prop := ∀ j (hj : j < P.length), ∃ b o, pa = some ⟨b, o, none⟩ ∧ ∃ a c, w.cell? ⟨b, o + j, none⟩ = some (.slice a P[j].length c) ∧ P[j].length ≤ c ∧ RdX w a P[j]
/-- the document's index, as it is read -/
structure XV (w : World) (r S : Nat) (pa : Option Addr) (n cap : Nat) (P : List (List Ent)) : Prop where
  c0 : w.cell? ⟨r, 0, none⟩ = some (.int .i64 (S : Int))
  c1 : w.cell? ⟨r, 1, none⟩ = some (.slice pa n cap)
  len : n = P.length
  rd : RdXP w pa P
variable {w w' : World} {r S n cap : Nat} {pa : Option Addr} {P : List (List Ent)}
theorem RdX.below {ao : Option Addr} {xs : List Ent} (h : RdX w ao xs) (hb : Below w.heap.size w w') : RdX w' ao xs := fun j hj => by
  obtain ⟨b, o, h1, h2⟩ := h j hj
  exact ⟨b, o, h1, rangeAt_below h2 hb⟩
theorem RdXP.below (h : RdXP w pa P) (hb : Below w.heap.size w w') : RdXP w' pa P := fun j hj => by
  obtain ⟨b, o, h1, a, c, h2, h3, h4⟩ := h j hj
  exact ⟨b, o, h1, a, c, (hb.cell (World.block_lt_of_cell? w _ h2)).trans h2, h3, h4.below hb⟩
theorem XV.below (h : XV w r S pa n cap P) (hb : Below w.heap.size w w') : XV w' r S pa n cap P :=
  ⟨(hb.cell (World.block_lt_of_cell? w _ h.c0)).trans h.c0, (hb.cell (World.block_lt_of_cell? w _ h.c1)).trans h.c1, h.len, h.rd.below hb⟩
/-- two rows lie in two blocks -/
def apV (x y : Value) : Prop := ∀ b, x.ownBlock = some b → y.ownBlock ≠ some b
/-- the document's index -/
structure RefI (w : World) (r S : Nat) (P : List (List Ent)) (v : Value) (vs : List Value) : Prop where
  hd : w.heap[r]? = some (.cells #[.int .i64 (S : Int), v] tRi (0, 0))
  row : w.ownsRow 0 tRs 1 v P.length vs
  pg : ∀ j (hj : j < P.length), ∃ x, vs[j]? = some x ∧ w.ownsRow 0 tRe 3 x P[j].length (flatE P[j])
  ap : vs.Pairwise apV
theorem ownX_rd {x : Value} {xs : List Ent} (h : w.ownsRow 0 tRe 3 x xs.length (flatE xs)) : ∃ a c, x = .slice a xs.length c ∧ xs.length ≤ c ∧ RdX w a xs := by
  have h' := h
  rcases h.2 with ⟨rfl, h0⟩ | ⟨g, cap, cur, rfl, hB, hg, hn, hm, r⟩
  · obtain rfl : xs = [] := List.eq_nil_of_length_eq_zero h0
    exact ⟨none, 0, rfl, Nat.le_refl _, fun j hj => absurd hj (Nat.not_lt_zero _)⟩
  · refine ⟨_, cap, rfl, hn, fun j hj => ⟨g, 0, rfl, fun q v hv => ?_⟩⟩
    have hq : q < 3 := by have := (List.getElem?_eq_some_iff.1 hv).1; simpa using this
    rw [Nat.zero_add, World.ownsRow.cellAt h' _ (by omega), flatE_get xs j q hj hq]
    exact hv
theorem RefI.view {v : Value} {vs : List Value} (h : RefI w r S P v vs) : ∃ pa cap, v = .slice pa P.length cap ∧ P.length ≤ cap ∧ XV w r S pa P.length cap P := by
  have c0 : w.cell? ⟨r, 0, none⟩ = some (.int .i64 (S : Int)) := by rw [cell_of_row _ _ _ _ _ _ h.hd]; rfl
  have c1 : w.cell? ⟨r, 1, none⟩ = some v := by rw [cell_of_row _ _ _ _ _ _ h.hd]; rfl
  have hrow := h.row
  rcases h.row.2 with ⟨rfl, h0⟩ | ⟨g, cap, cur, rfl, hB, hg, hn, hm, rr⟩
  · refine ⟨none, 0, by rw [h0], by omega, c0, by rw [h0]; exact c1, rfl, fun j hj => by omega⟩
  · refine ⟨_, cap, rfl, hn, c0, c1, rfl, fun j hj => ?_⟩
    obtain ⟨x, hx, hp⟩ := h.pg j hj
    obtain ⟨a, c, rfl, hc, hr⟩ := ownX_rd hp
    refine ⟨g, 0, rfl, a, c, ?_, hc, hr⟩
    rw [Nat.zero_add, World.ownsRow.cellAt hrow j (by omega), hx]
section
set_option maxRecDepth 20000
set_option maxHeartbeats 3200000
theorem rless_t (a b : St) (w : World) : Calls Try.prog 56 #[sv a, sv b] w fun e w' => e = .returned (.bool (ltS a b)) ∧ Below w.heap.size w w' := by
  obtain ⟨a1, a2⟩ := a
  obtain ⟨b1, b2⟩ := b
  go_enter Try.func56, Try.ntmps56
  by_cases h2 : a1 = b1
  · subst h2
    by_cases h3 : a2 < b2
    · have h3i : (a2 : Int) < (b2 : Int) := by omega
      go_wp2
      go_ret
      exact ⟨by simp [ltS, h3], al (al (Below.refl _ _) _) _⟩
    · have h3i : ¬ (a2 : Int) < (b2 : Int) := by omega
      go_wp2
      go_ret
      exact ⟨by simp [ltS, h3], al (al (Below.refl _ _) _) _⟩
  · have h2i : ¬ (a1 : Int) = (b1 : Int) := by omega
    have h2b : ((a1 : Int) == (b1 : Int)) = false := by simpa using h2i
    by_cases h1 : a1 < b1
    · have h1i : (a1 : Int) < (b1 : Int) := by omega
      go_wp2
      go_ret
      exact ⟨by simp [ltS, h1], al (al (Below.refl _ _) _) _⟩
    · have h1i : ¬ (a1 : Int) < (b1 : Int) := by omega
      go_wp2
      go_ret
      exact ⟨by simp [ltS, h1, h2], al (al (Below.refl _ _) _) _⟩
end
end Go.Proofs.Ytibolgpaolnheac
