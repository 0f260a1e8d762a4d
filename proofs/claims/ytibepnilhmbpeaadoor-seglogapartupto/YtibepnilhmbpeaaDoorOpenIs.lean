import Derived.Test.YtibepnilhmbpeaaDoorOpenD
import Derived.Test.YtibepnilhmbpeaaDoorBulk
namespace Go.Proofs.YtibepnilhmbpeaaDoor
set_option linter.unusedVariables false
set_option linter.unusedSimpArgs false
open Go.ChangeShapes Go.WideShapes Go.ChangeAt Go.RowKit
theorem cellsSI : Tryd.prog.cellsOf 3 = 1 := by kernel_rfl
section
variable {H : Type} {enc : TypeId × Value → H} {W : World}
set_option maxRecDepth 20000 in
theorem opened_is {fuel : Nat} {v : Value} {x : DataW H × List MemPlace} (h : DataW.trod enc Tryd.prog W 0 (fun _ => true) true fuel 22 [v] = some x) :
    ∃ a c, ∃ xs : List Int, v = .slice a xs.length c ∧ RdI W a xs ∧ (∀ n ∈ xs, I64 n) ∧ xs.length ≤ c ∧ (a = none → c = 0) ∧ c + 1 ≤ Rows.uptoBulk x.1 := by
  rcases Deep.open_slice Tryd.underlying22 h with ⟨hcs, _⟩ | ⟨q, len, cap, m, n, D, Pl, hcs, _, hl, hm, hmm, hd, hcell⟩
  · simp at hcs
    exact ⟨none, 0, [], hcs, fun hp => by simp at hp, by simp, Nat.le_refl _, fun _ => rfl, bulk_pos _⟩
  · simp at hcs
    simp only [if_true] at hmm
    subst hmm
    obtain ⟨b, o, s⟩ := q
    have hs0 : 0 < len → s = none := by
      intro h0
      obtain ⟨cs', h1, -⟩ := hcell 0 (by omega)
      rw [cellsSI] at h1
      obtain ⟨_, hlen, hcl⟩ := World.cells?_some h1
      have g0 := hcl 0 (by omega)
      match cs', hlen with
      | [v0], _ =>
        simp [Addr.add] at g0
        simpa using World.cell?_spot g0
    have each : ∀ j, j < len → ∃ y : Int, (s = none ∧ W.cell? ⟨b, o + j, none⟩ = some (.int .i64 y)) ∧ I64 y := by
      intro j hj
      obtain ⟨cs', h1, h2⟩ := hcell j (by omega)
      rw [cellsSI] at h1
      obtain ⟨_, hlen, hcl⟩ := World.cells?_some h1
      have g0 := hcl 0 (by omega)
      match cs', hlen with
      | [v0], _ =>
        obtain ⟨y, rfl, hy⟩ := open_i h2
        have hs : s = none := hs0 (by omega)
        subst hs
        rw [Deep.add_add, Go.WideShapes.add_plain] at g0
        refine ⟨y, ⟨rfl, ?_⟩, hy⟩
        simpa using g0
    obtain ⟨l, hll, hlp⟩ := list_of len each
    subst hll
    refine ⟨_, _, l, hcs, fun hp => ?_, fun n hn => ?_, hl, (fun h => by cases h), ?_⟩
    · have hs := (hlp 0 hp).1.1
      subst hs
      exact ⟨b, o, rfl, fun j hj => (hlp j hj).1.2⟩
    · obtain ⟨j, hj, rfl⟩ := List.getElem_of_mem hn
      exact (hlp j hj).2
    · rw [hd]
      refine Nat.le_trans ?_ (bulk_slice _ _)
      simp
      omega
end
end Go.Proofs.YtibepnilhmbpeaaDoor
