import Derived.Test.YtmjhbckedagjjaaOpenC
import Derived.Test.YtmjhbckedagjjaaCBk
namespace Go.Proofs.Ytmjhbckedagjjaa
set_option linter.unusedVariables false
set_option linter.unusedSimpArgs false
open Go.ChangeShapes Go.WideShapes Go.ChangeAt Go.RowKit
section
variable {H : Type} {enc : TypeId × Value → H} {W : World}
set_option maxRecDepth 20000 in
theorem open_is {fuel : Nat} {v : Value} {x : DataW H × List MemPlace} (h : DataW.trod enc Try.prog W 0 (fun _ => true) true fuel 47 [v] = some x) (hw : ∀ n ∈ x.1.weights Try.prog 47, n ≤ reachBytes) :
    ∃ a c, ∃ xs : List Int, v = .slice a xs.length c ∧ RdN W a xs ∧ xs.length ≤ c ∧ (a = none → c = 0) ∧ xs.length ≤ 17592186044416 := by
  rcases Deep.open_slice Try.underlying47 h with ⟨hcs, _⟩ | ⟨q, len, cap, m, n, D, Pl, hcs, _, hl, hm, hmm, hd, hcell⟩
  · simp at hcs
    exact ⟨none, 0, [], hcs, fun h => absurd h (Nat.lt_irrefl 0), Nat.le_refl _, fun _ => rfl, by simp⟩
  · simp at hcs
    simp only [if_true] at hmm
    subst hmm
    have hsz := hw ((len + (m - len)) * Try.prog.bytesOf 3) (by rw [hd]; simp [DataW.weights, Try.underlying47])
    rw [show Try.prog.bytesOf 3 = 8 from by kernel_rfl] at hsz
    simp only [reachBytes] at hsz
    obtain ⟨b, o, s⟩ := q
    have hs0 : 0 < len → s = none := by
      intro h0
      obtain ⟨cs', h1, -⟩ := hcell 0 (by omega)
      rw [show Try.prog.cellsOf 3 = 1 from by kernel_rfl] at h1
      obtain ⟨_, hlen, hcl⟩ := World.cells?_some h1
      have g0 := hcl 0 (by omega)
      match cs', hlen with
      | [v0], _ =>
        simp [Addr.add] at g0
        simpa using World.cell?_spot g0
    have each : ∀ j, j < len → ∃ y : Int, (s = none ∧ W.cell? ⟨b, o + j, none⟩ = some (.int .i64 y)) ∧ (-9223372036854775808 ≤ y ∧ y ≤ 9223372036854775807) := by
      intro j hj
      obtain ⟨cs', h1, h2⟩ := hcell j (by omega)
      rw [show Try.prog.cellsOf 3 = 1 from by kernel_rfl] at h1
      obtain ⟨_, hlen, hcl⟩ := World.cells?_some h1
      have g0 := hcl 0 (by omega)
      match cs', hlen with
      | [v0], _ =>
        obtain ⟨y, rfl, hy⟩ := open_i h2
        have hs : s = none := hs0 (by omega)
        subst hs
        rw [Deep.add_add, Go.WideShapes.add_plain] at g0
        refine ⟨y, ⟨rfl, ?_⟩, hy⟩
        simpa using g0
    obtain ⟨l, hll, hlp⟩ := list_of len each
    subst hll
    refine ⟨_, _, l, hcs, fun hp => ?_, hl, (fun h => by cases h), by omega⟩
    have hs := (hlp 0 hp).1.1
    subst hs
    exact ⟨b, o, rfl, fun j hj => ⟨(hlp j hj).1.2, (hlp j hj).2⟩⟩
theorem opened_ints {a : Option Addr} {len cap : Nat} {d : DataW H} {p : List MemPlace} (h : DataW.Trod enc Try.prog W 0 (fun _ => true) true 47 (.slice a len cap) d p) (hw : ∀ n ∈ d.weights Try.prog 47, n ≤ reachBytes) :
    ∃ xs : List Int, len = xs.length ∧ RdN W a xs ∧ len ≤ 17592186044416 := by
  obtain ⟨fuel, hf⟩ := h
  obtain ⟨a', c', xs, hv, h1, h2, h3, h4⟩ := open_is (fuel := fuel) (v := .slice a len cap) (x := (d, p)) hf hw
  obtain ⟨rfl, rfl, rfl⟩ := Value.slice.inj hv
  exact ⟨xs, rfl, h1, h4⟩
end
end Go.Proofs.Ytmjhbckedagjjaa
