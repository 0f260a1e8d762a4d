import Derived.Test.YtekfolppahnpoaaOpenD
import Derived.Test.YtekfolppahnpoaaBulk
import Derived.Test.YtekfolppahnpoaaDRun
namespace Go.Proofs.Ytekfolppahnpoaa
set_option linter.unusedVariables false
set_option linter.unusedSimpArgs false
open Go.ChangeShapes Go.WideShapes Go.ChangeAt Go.RowKit
theorem cellsSt : Try.prog.cellsOf 52 = 3 := by kernel_rfl
theorem cellsSI : Try.prog.cellsOf 3 = 1 := by kernel_rfl
theorem cellsSS : Try.prog.cellsOf 37 = 1 := by kernel_rfl
section
variable {H : Type} {enc : TypeId × Value → H} {W : World}
set_option maxRecDepth 20000 in
theorem opened_is {fuel : Nat} {v : Value} {x : DataW H × List MemPlace} (h : DataW.trod enc Try.prog W 0 (fun _ => true) true fuel 37 [v] = some x) :
    ∃ a c, ∃ xs : List Int, v = .slice a xs.length c ∧ Ints W a xs ∧ (∀ n ∈ xs, I64 n) ∧ xs.length ≤ c ∧ (a = none → c = 0) ∧ c + 1 ≤ Rows.uptoBulk x.1 := by
  rcases Deep.open_slice Try.underlying37 h with ⟨hcs, _⟩ | ⟨q, len, cap, m, n, D, Pl, hcs, _, hl, hm, hmm, hd, hcell⟩
  · simp at hcs
    exact ⟨none, 0, [], hcs, fun j hj => by simp at hj, by simp, Nat.le_refl _, fun _ => rfl, bulk_pos _⟩
  · simp at hcs
    simp only [if_true] at hmm
    subst hmm
    obtain ⟨b, o, s⟩ := q
    have hs0 : 0 < len → s = none := by
      intro h0
      obtain ⟨cs', h1, -⟩ := hcell 0 (by omega)
      rw [cellsSI] at h1
      obtain ⟨_, hlen, hcl⟩ := World.cells?_some h1
      have g0 := hcl 0 (by omega)
      match cs', hlen with
      | [v0], _ =>
        simp [Addr.add] at g0
        simpa using World.cell?_spot g0
    have each : ∀ j, j < len → ∃ y : Int, (s = none ∧ W.cell? ⟨b, o + j, none⟩ = some (.int .i64 y)) ∧ I64 y := by
      intro j hj
      obtain ⟨cs', h1, h2⟩ := hcell j (by omega)
      rw [cellsSI] at h1
      obtain ⟨_, hlen, hcl⟩ := World.cells?_some h1
      have g0 := hcl 0 (by omega)
      match cs', hlen with
      | [v0], _ =>
        obtain ⟨y, rfl, hy⟩ := open_i h2
        have hs : s = none := hs0 (by omega)
        subst hs
        rw [Deep.add_add, Go.WideShapes.add_plain] at g0
        refine ⟨y, ⟨rfl, ?_⟩, hy⟩
        simpa using g0
    obtain ⟨l, hll, hlp⟩ := list_of len each
    subst hll
    refine ⟨_, _, l, hcs, fun j hj => ?_, fun n hn => ?_, hl, (fun h => by cases h), ?_⟩
    · have hs := (hlp j hj).1.1
      subst hs
      exact ⟨b, o, rfl, (hlp j hj).1.2⟩
    · obtain ⟨j, hj, rfl⟩ := List.getElem_of_mem hn
      exact (hlp j hj).2
    · rw [hd]
      refine Nat.le_trans ?_ (bulk_slice _ _)
      simp
      omega
set_option maxRecDepth 20000 in
theorem opened_steps {fuel : Nat} {v : Value} {x : DataW H × List MemPlace} (h : DataW.trod enc Try.prog W 0 (fun _ => true) true fuel 22 [v] = some x) :
    ∃ a c, ∃ xs : List Stp, v = .slice a xs.length c ∧ RdSt W a xs ∧ xs.length ≤ c ∧ (a = none → c = 0) ∧ c + 1 ≤ Rows.uptoBulk x.1 := by
  rcases Deep.open_slice Try.underlying22 h with ⟨hcs, _⟩ | ⟨q, len, cap, m, n, D, Pl, hcs, _, hl, hm, hmm, hd, hcell⟩
  · simp at hcs
    exact ⟨none, 0, [], hcs, fun j hj => by simp at hj, Nat.le_refl _, fun _ => rfl, bulk_pos _⟩
  · simp at hcs
    simp only [if_true] at hmm
    subst hmm
    obtain ⟨b, o, s⟩ := q
    have hs0 : 0 < len → s = none := by
      intro h0
      obtain ⟨cs', h1, -⟩ := hcell 0 (by omega)
      rw [cellsSt] at h1
      obtain ⟨_, hlen, hcl⟩ := World.cells?_some h1
      have g0 := hcl 0 (by omega)
      match cs', hlen with
      | [v0, v1, v2], _ =>
        simp [Addr.add] at g0
        simpa using World.cell?_spot g0
    have each : ∀ j, j < len → ∃ i : Stp, s = none ∧ ∃ ca cc, W.rangeAt b (o + j * 3) [.int .i64 i.op, .int .i64 i.at_, .slice ca i.cs.length cc] ∧ Ints W ca i.cs ∧ (-9223372036854775808 ≤ i.at_ ∧ i.at_ ≤ 9223372036854775807) := by
      intro j hj
      obtain ⟨cs', h1, h2⟩ := hcell j (by omega)
      rw [cellsSt] at h1
      obtain ⟨_, hlen, hcl⟩ := World.cells?_some h1
      obtain ⟨y0, y1, y2, n', hxy, _, t0, t1, t2⟩ := Deep.trod_struct3 Try.underlying52 h2
      match cs', hlen with
      | [v0, v1, v2], _ =>
        simp only [cellsSI, cellsSS] at t0 t1 t2
        have g0 := hcl 0 (by omega)
        have g1 := hcl 1 (by omega)
        have g2 := hcl 2 (by omega)
        rw [Deep.add_add] at g0 g1 g2
        simp at t0 t1 t2
        obtain ⟨z0, rfl, -⟩ := open_i t0
        obtain ⟨z1, rfl, hz1⟩ := open_i t1
        obtain ⟨a2, c2, xs, rfl, hi2, -⟩ := opened_is t2
        have hs : s = none := hs0 (by omega)
        subst hs
        rw [Go.WideShapes.add_plain] at g0 g1 g2
        refine ⟨⟨z0, z1, xs⟩, rfl, a2, c2, ?_, hi2, hz1⟩
        intro k v hk
        match k with
        | 0 => simp at hk; subst hk; simpa using g0
        | 1 => simp at hk; subst hk; simpa [Nat.add_assoc] using g1
        | 2 => simp at hk; subst hk; simpa [Nat.add_assoc] using g2
        | k + 3 => simp at hk
    obtain ⟨l, hll, hlp⟩ := list_of len each
    subst hll
    refine ⟨_, _, l, hcs, fun j hj => ?_, hl, (fun h => by cases h), ?_⟩
    · obtain ⟨hs, ca, cc, h1, h2, h3⟩ := hlp j hj
      subst hs
      exact ⟨b, o, ca, cc, rfl, h1, h2, h3⟩
    · rw [hd]
      refine Nat.le_trans ?_ (bulk_slice _ _)
      simp
      omega
end
end Go.Proofs.Ytekfolppahnpoaa
