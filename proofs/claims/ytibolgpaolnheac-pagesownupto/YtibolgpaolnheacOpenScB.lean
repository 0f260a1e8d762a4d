import Derived.Test.YtibolgpaolnheacOpenSc
import Derived.Test.YtibolgpaolnheacBulk
namespace Go.Proofs.Ytibolgpaolnheac
set_option linter.unusedVariables false
set_option linter.unusedSimpArgs false
open Go.ChangeShapes Go.WideShapes Go.ChangeAt Go.RowKit
section
variable {H : Type} {enc : TypeId × Value → H} {W : World}
set_option maxRecDepth 20000 in
theorem open_lopsB {fuel : Nat} {v : Value} {x : DataW H × List MemPlace} (h : DataW.trod enc Try.prog W 0 (fun _ => true) true fuel 22 [v] = some x) :
    ∃ a c, ∃ xs : List Stp, v = .slice a xs.length c ∧ RdO W a xs ∧ xs.length ≤ c ∧ (a = none → c = 0) ∧ c + 1 ≤ Rows.uptoBulk x.1 := by
  rcases Deep.open_slice Try.underlying22 h with ⟨hcs, _⟩ | ⟨q, len, cap, m, n, D, Pl, hcs, _, hl, hm, hmm, hd, hcell⟩
  · simp at hcs
    exact ⟨none, 0, [], hcs, fun j hj => by simp at hj, Nat.le_refl _, fun _ => rfl, bulk_pos _⟩
  · simp at hcs
    simp only [if_true] at hmm
    subst hmm
    obtain ⟨b, o, s⟩ := q
    have hs0 : 0 < len → s = none := by
      intro h0
      obtain ⟨cs', h1, -⟩ := hcell 0 (by omega)
      rw [cellsLO] at h1
      obtain ⟨_, hlen, hcl⟩ := World.cells?_some h1
      have g0 := hcl 0 (by omega)
      match cs', hlen with
      | [v0, v1, v2, v3], _ =>
        simp [Addr.add] at g0
        simpa using World.cell?_spot g0
    have each : ∀ j, j < len → ∃ y : Stp, s = none ∧ W.rangeAt b (o + j * 4) (opv y) := by
      intro j hj
      obtain ⟨cs', h1, h2⟩ := hcell j (by omega)
      rw [cellsLO] at h1
      obtain ⟨_, hlen, hcl⟩ := World.cells?_some h1
      obtain ⟨y0, y1, y2, n', hxy, _, t0, t1, t2⟩ := Deep.trod_struct3 Try.underlying38 h2
      match cs', hlen with
      | [v0, v1, v2, v3], _ =>
        simp only [cellsLI, cellsLS, cellsLU] at t0 t1 t2
        simp at t0 t1 t2
        obtain ⟨u0, u1, n'', -, -, r0, r1⟩ := trod_struct2 Try.underlying36 t1
        simp only [cellsLU] at r0 r1
        simp at r0 r1
        obtain ⟨z0, rfl, hz0⟩ := open_i t0
        obtain ⟨z1, rfl, hz1⟩ := open_u r0
        obtain ⟨z2, rfl, hz2⟩ := open_u r1
        obtain ⟨z3, rfl, hz3⟩ := open_u t2
        have hs : s = none := hs0 (by omega)
        subst hs
        refine ⟨(z0, ⟨(z1, z2), z3⟩), rfl, fun q u hu => ?_⟩
        have hq : q < 4 := by have := (List.getElem?_eq_some_iff.1 hu).1; simpa using this
        have g := hcl q (by simpa using hq)
        rw [Deep.add_add, Go.WideShapes.add_plain] at g
        rw [Nat.add_assoc, g]
        exact hu
    obtain ⟨l, hll, hlp⟩ := list_of len each
    subst hll
    refine ⟨_, _, l, hcs, fun j hj => ?_, hl, (fun h => by cases h), ?_⟩
    · obtain ⟨hs, h1⟩ := hlp j hj
      subst hs
      exact ⟨b, o, rfl, h1⟩
    · rw [hd]
      refine Nat.le_trans ?_ (bulk_slice _ _)
      simp
      omega
set_option maxRecDepth 20000 in
theorem opened_scB {v : Value} {d : DataW H} {p : List MemPlace} {r : Reach} {b0 : Nat} (hv : Value.okWide Try.prog W r b0 24 v)
    (h : DataW.Trod enc Try.prog W 0 (fun _ => true) true 24 v d p) :
    ∃ (z : Int) (a : Option Addr) (c : Nat) (xs : List Stp), v = .agg #[.int .i64 z, .slice a xs.length c] ∧ RdO W a xs ∧ xs.length ≤ c ∧ (a = none → c = 0) ∧ c + 1 ≤ Rows.uptoBulk d := by
  obtain ⟨cs, rfl, hsz⟩ := okWide_struct Try.underlying24 hv
  rw [cellsSC] at hsz
  obtain ⟨c0, c1, rfl⟩ := arr2 hsz
  obtain ⟨fuel, hf⟩ := h
  obtain ⟨y0, y1, n, hx, _, g0, g1⟩ := trod_struct2 Try.underlying24 hf
  simp [cellsLI, cellsSL, Value.cells] at g0 g1
  obtain ⟨z, rfl, -⟩ := open_i g0
  cases hx
  obtain ⟨a, c, xs, rfl, h1, h2, h3, h4⟩ := open_lopsB g1
  refine ⟨z, a, c, xs, rfl, h1, h2, h3, ?_⟩
  simp only [Rows.uptoBulk, Rows.uptoBulkAll]
  omega
end
end Go.Proofs.Ytibolgpaolnheac
