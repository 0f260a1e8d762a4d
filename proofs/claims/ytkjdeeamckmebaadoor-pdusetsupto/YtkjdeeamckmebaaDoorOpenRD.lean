import Derived.Test.YtkjdeeamckmebaaDoorOpen
import Derived.Test.YtkjdeeamckmebaaDoorURd
import Derived.Test.YtkjdeeamckmebaaDoorBulk
import Derived.ProofKit
import Derived.OpenShut
import Derived.SizedLaws
import Derived.Below
import Derived.Deep.Slices
import Derived.Deep.Strs
import Derived.Lib.SmallJoins
import Derived.ChangeSame
namespace Go.Proofs.YtkjdeeamckmebaaDoor
set_option linter.unusedVariables false
set_option linter.unusedSimpArgs false
open Go.ChangeShapes Go.WideShapes Go.ChangeAt Go.RowKit
theorem cellsRg : Tryd.prog.cellsOf 28 = 2 := by kernel_rfl
theorem cellsRI : Tryd.prog.cellsOf 3 = 1 := by kernel_rfl
theorem list_of {α : Type} {P : Nat → α → Prop} : ∀ (n : Nat), (∀ j, j < n → ∃ x, P j x) → ∃ l : List α, l.length = n ∧ ∀ j (hj : j < l.length), P j l[j]
  | 0, _ => ⟨[], rfl, fun j hj => by simp at hj⟩
  | n + 1, h => by
    obtain ⟨l, hl, hp⟩ := list_of n (fun j hj => h j (by omega))
    obtain ⟨x, hx⟩ := h n (by omega)
    refine ⟨l ++ [x], by simp [hl], fun j hj => ?_⟩
    by_cases e : j < l.length
    · rw [List.getElem_append_left e]; exact hp j e
    · have : j = l.length := by simp at hj; omega
      subst this
      simp
      rw [hl]
      exact hx
section
variable {H : Type} {enc : TypeId × Value → H} {W : World}
theorem open_i {fuel : Nat} {v : Value} {x : DataW H × List MemPlace} (h : DataW.trod enc Tryd.prog W 0 (fun _ => true) true fuel 3 [v] = some x) : ∃ m : Int, v = .int .i64 m ∧ -9223372036854775808 ≤ m ∧ m ≤ 9223372036854775807 := by
  obtain ⟨z, e, _, wm⟩ := DataW.trod_int Tryd.underlying3 h
  have h2 : -9223372036854775808 ≤ z ∧ z ≤ 9223372036854775807 := by simpa [Lit.wf, IntKind.min, IntKind.max, IntKind.signed, IntKind.bits] using wm
  simp at e
  exact ⟨z, e, h2⟩
set_option maxRecDepth 20000 in
theorem opened_rs {fuel : Nat} {v : Value} {x : DataW H × List MemPlace} (h : DataW.trod enc Tryd.prog W 0 (fun _ => true) true fuel 22 [v] = some x) :
    ∃ a c, ∃ xs : List Rg, v = .slice a xs.length c ∧ RdR W a xs ∧ RI xs ∧ xs.length ≤ c ∧ (a = none → c = 0) ∧ c + 1 ≤ Rows.uptoBulk x.1 := by
  rcases Deep.open_slice Tryd.underlying22 h with ⟨hcs, _⟩ | ⟨q, len, cap, m, n, D, Pl, hcs, _, hl, hm, hmm, hd, hcell⟩
  · simp at hcs
    exact ⟨none, 0, [], hcs, fun j hj => by simp at hj, (fun x hx => by cases hx), Nat.le_refl _, fun _ => rfl, bulk_pos _⟩
  · simp at hcs
    simp only [if_true] at hmm
    subst hmm
    obtain ⟨b, o, s⟩ := q
    have hs0 : 0 < len → s = none := by
      intro h0
      obtain ⟨cs', h1, -⟩ := hcell 0 (by omega)
      rw [cellsRg] at h1
      obtain ⟨_, hlen, hcl⟩ := World.cells?_some h1
      have g0 := hcl 0 (by omega)
      match cs', hlen with
      | [v0, v1], _ =>
        simp [Addr.add] at g0
        simpa using World.cell?_spot g0
    have each : ∀ j, j < len → ∃ y : Rg, (s = none ∧ W.cell? ⟨b, o + j * 2, none⟩ = some (.int .i64 y.1) ∧ W.cell? ⟨b, o + j * 2 + 1, none⟩ = some (.int .i64 y.2)) ∧ I64 y.1 ∧ I64 y.2 := by
      intro j hj
      obtain ⟨cs', h1, h2⟩ := hcell j (by omega)
      rw [cellsRg] at h1
      obtain ⟨_, hlen, hcl⟩ := World.cells?_some h1
      obtain ⟨y0, y1, n', hxy, _, t0, t1⟩ := trod_struct2 Tryd.underlying28 h2
      match cs', hlen with
      | [v0, v1], _ =>
        simp only [cellsRI] at t0 t1
        have g0 := hcl 0 (by omega)
        have g1 := hcl 1 (by omega)
        rw [Deep.add_add] at g0 g1
        simp at t0 t1
        obtain ⟨z0, rfl, hz0⟩ := open_i t0
        obtain ⟨z1, rfl, hz1⟩ := open_i t1
        have hs : s = none := hs0 (by omega)
        subst hs
        rw [Go.WideShapes.add_plain] at g0 g1
        exact ⟨(z0, z1), ⟨rfl, by simpa using g0, by simpa [Nat.add_assoc] using g1⟩, hz0, hz1⟩
    obtain ⟨l, hll, hlp⟩ := list_of len each
    subst hll
    refine ⟨_, _, l, hcs, fun j hj => ?_, fun x hx => ?_, hl, (fun h => by cases h), ?_⟩
    · obtain ⟨⟨hs, h1, h2⟩, -⟩ := hlp j hj
      subst hs
      exact ⟨b, o, rfl, h1, h2⟩
    · obtain ⟨j, hj, rfl⟩ := List.getElem_of_mem hx
      exact (hlp j hj).2
    · rw [hd]
      refine Nat.le_trans ?_ (bulk_slice _ _)
      simp
      omega
end
end Go.Proofs.YtkjdeeamckmebaaDoor
