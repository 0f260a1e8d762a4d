import Derived.Test.YtibolgpaolnheacOpenLs
namespace Go.Proofs.Ytibolgpaolnheac
set_option linter.unusedVariables false
set_option linter.unusedSimpArgs false
open Go.ChangeShapes Go.WideShapes Go.ChangeAt Go.RowKit
theorem cellsSC : Try.prog.cellsOf 24 = 2 := by kernel_rfl
theorem cellsSL : Try.prog.cellsOf 22 = 1 := by kernel_rfl
section
variable {H : Type} {enc : TypeId × Value → H} {W : World}
set_option maxRecDepth 20000 in
theorem opened_sc {v : Value} {d : DataW H} {p : List MemPlace} {r : Reach} {b0 : Nat} (hv : Value.okWide Try.prog W r b0 24 v)
    (h : DataW.Trod enc Try.prog W 0 (fun _ => true) true 24 v d p) (hw : ∀ n ∈ d.weights Try.prog 24, n ≤ reachBytes) :
    ∃ (z : Int) (a : Option Addr) (c : Nat) (xs : List Stp), v = .agg #[.int .i64 z, .slice a xs.length c] ∧ RdO W a xs ∧ xs.length ≤ c ∧ (a = none → c = 0) ∧ xs.length ≤ 4398046511103 := by
  obtain ⟨cs, rfl, hsz⟩ := okWide_struct Try.underlying24 hv
  rw [cellsSC] at hsz
  obtain ⟨c0, c1, rfl⟩ := arr2 hsz
  obtain ⟨fuel, hf⟩ := h
  obtain ⟨y0, y1, n, hx, _, g0, g1⟩ := trod_struct2 Try.underlying24 hf
  simp [cellsLI, cellsSL, Value.cells] at g0 g1
  obtain ⟨z, rfl, -⟩ := open_i g0
  cases hx
  obtain ⟨a, c, xs, rfl, h1, h2, h3, h4⟩ := open_lops g1 (fun n hn => hw n (by
    simp only [DataW.weights, Try.underlying24]
    exact DataW.weights_mem_each (j := 1) (t := 22) (d := y1.1) rfl rfl n hn))
  exact ⟨z, a, c, xs, rfl, h1, h2, h3, h4⟩
end
end Go.Proofs.Ytibolgpaolnheac
