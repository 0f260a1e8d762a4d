import Derived.Test.YtibolgpaolnheaaOpenL
namespace Go.Proofs.Ytibolgpaolnheaa
set_option linter.unusedVariables false
set_option linter.unusedSimpArgs false
open Go.ChangeShapes Go.WideShapes Go.ChangeAt Go.RowKit
theorem arr2 {α : Type} {cs : Array α} (h : cs.size = 2) : ∃ c0 c1, cs = #[c0, c1] := by
  obtain ⟨l⟩ := cs
  match l, h with
  | [a, b], _ => exact ⟨a, b, rfl⟩
section
variable {H : Type} {enc : TypeId × Value → H} {W : World}
set_option maxRecDepth 20000 in
theorem opened_st {v : Value} {d : DataW H} {p : List MemPlace} {r : Reach} {b0 : Nat} (hv : Value.okWide Try.prog W r b0 34 v)
    (h : DataW.Trod enc Try.prog W 0 (fun _ => true) true 34 v d p) : ∃ s1 s2 : Nat, v = sv (s1, s2) ∧ s1 < 18446744073709551616 ∧ s2 < 18446744073709551616 := by
  obtain ⟨cs, rfl, hsz⟩ := okWide_struct Try.underlying34 hv
  rw [cellsLS] at hsz
  obtain ⟨c0, c1, rfl⟩ := arr2 hsz
  obtain ⟨fuel, hf⟩ := h
  obtain ⟨z0, z1, _, _, _, g0, g1⟩ := trod_struct2 Try.underlying34 hf
  simp [cellsLU, Value.cells] at g0 g1
  obtain ⟨s1, rfl, h1⟩ := open_u g0
  obtain ⟨s2, rfl, h2⟩ := open_u g1
  exact ⟨s1, s2, rfl, h1, h2⟩
end
end Go.Proofs.Ytibolgpaolnheaa
