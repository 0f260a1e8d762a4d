import Derived.Test.YtgdkiejlggiakabOpenSt
namespace Go.Proofs.Ytgdkiejlggiakab
set_option linter.unusedVariables false
set_option linter.unusedSimpArgs false
open Go.ChangeShapes Go.WideShapes Go.ChangeAt Go.RowKit
/-- rows of ints can be read -/
def RdIss (W : World) (a : Option Addr) (xss : List (List Int)) : Prop := ∀ k (hk : k < xss.length), ∃ b o ca cc, a = some ⟨b, o, none⟩ ∧ W.cell? ⟨b, o + k, none⟩ = some (.slice ca xss[k].length cc) ∧ Ints W ca xss[k]
section
variable {H : Type} {enc : TypeId × Value → H} {W : World}
set_option maxRecDepth 20000 in
theorem opened_iss {fuel : Nat} {v : Value} {x : DataW H × List MemPlace} (h : DataW.trod enc Try.prog W 0 (fun _ => true) true fuel 60 [v] = some x) :
    ∃ a c, ∃ xs : List (List Int), v = .slice a xs.length c ∧ RdIss W a xs ∧ xs.length ≤ c ∧ (a = none → c = 0) ∧ c + 1 ≤ Rows.uptoBulk x.1 := by
  rcases Deep.open_slice Try.underlying60 h with ⟨hcs, _⟩ | ⟨q, len, cap, m, n, D, Pl, hcs, _, hl, hm, hmm, hd, hcell⟩
  · simp at hcs
    exact ⟨none, 0, [], hcs, fun j hj => by simp at hj, Nat.le_refl _, fun _ => rfl, bulk_pos _⟩
  · simp at hcs
    simp only [if_true] at hmm
    subst hmm
    obtain ⟨b, o, s⟩ := q
    have hs0 : 0 < len → s = none := by
      intro h0
      obtain ⟨cs', h1, -⟩ := hcell 0 (by omega)
      rw [cellsSS] at h1
      obtain ⟨_, hlen, hcl⟩ := World.cells?_some h1
      have g0 := hcl 0 (by omega)
      match cs', hlen with
      | [v0], _ =>
        simp [Addr.add] at g0
        simpa using World.cell?_spot g0
    have each : ∀ j, j < len → ∃ y : List Int, s = none ∧ ∃ ca cc, W.cell? ⟨b, o + j, none⟩ = some (.slice ca y.length cc) ∧ Ints W ca y := by
      intro j hj
      obtain ⟨cs', h1, h2⟩ := hcell j (by omega)
      rw [cellsSS] at h1
      obtain ⟨_, hlen, hcl⟩ := World.cells?_some h1
      have g0 := hcl 0 (by omega)
      match cs', hlen with
      | [v0], _ =>
        obtain ⟨a2, c2, xs, rfl, hi2, -⟩ := opened_is h2
        have hs : s = none := hs0 (by omega)
        subst hs
        rw [Deep.add_add, Go.WideShapes.add_plain] at g0
        exact ⟨xs, rfl, a2, c2, by simpa using g0, hi2⟩
    obtain ⟨l, hll, hlp⟩ := list_of len each
    subst hll
    refine ⟨_, _, l, hcs, fun j hj => ?_, hl, (fun h => by cases h), ?_⟩
    · obtain ⟨hs, ca, cc, h1, h2⟩ := hlp j hj
      subst hs
      exact ⟨b, o, ca, cc, rfl, h1, h2⟩
    · rw [hd]
      refine Nat.le_trans ?_ (bulk_slice _ _)
      simp
      omega
end
end Go.Proofs.Ytgdkiejlggiakab
