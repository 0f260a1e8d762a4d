import Derived.Test.YtibolgpaolnheaaZQB
import Derived.ProofKit
import Derived.OpenShut
import Derived.SizedLaws
import Derived.Below
import Derived.Deep.Slices
import Derived.Deep.Strs
import Derived.Lib.SmallJoins
import Derived.ChangeSame
namespace Go.Proofs.Ytibolgpaolnheaa
set_option linter.unusedVariables false
set_option linter.unusedSimpArgs false
open Go.ChangeShapes Go.WideShapes Go.ChangeAt Go.RowKit
theorem ownKn : ownKnob Try.prog.godebug = none := by kernel_rfl
theorem laidOut : laidOutB Try.prog = true := by kernel_rfl
theorem i64_of {n : Int} (h : (Lit.int .i64 n).wf = true) : -9223372036854775808 ≤ n ∧ n ≤ 9223372036854775807 := by
  simpa [Lit.wf, IntKind.min, IntKind.max, IntKind.signed, IntKind.bits] using h
theorem cellsLO : Try.prog.cellsOf 36 = 4 := by kernel_rfl
theorem cellsLS : Try.prog.cellsOf 34 = 2 := by kernel_rfl
theorem cellsLI : Try.prog.cellsOf 3 = 1 := by kernel_rfl
theorem cellsLU : Try.prog.cellsOf 32 = 1 := by kernel_rfl
theorem list_of {α : Type} {P : Nat → α → Prop} : ∀ (n : Nat), (∀ j, j < n → ∃ x, P j x) → ∃ l : List α, l.length = n ∧ ∀ j (hj : j < l.length), P j l[j]
  | 0, _ => ⟨[], rfl, fun j hj => by simp at hj⟩
  | n + 1, h => by
    obtain ⟨l, hl, hp⟩ := list_of n (fun j hj => h j (by omega))
    obtain ⟨x, hx⟩ := h n (by omega)
    refine ⟨l ++ [x], by simp [hl], fun j hj => ?_⟩
    by_cases e : j < l.length
    · rw [List.getElem_append_left e]; exact hp j e
    · have : j = l.length := by simp at hj; omega
      subst this
      simp
      rw [hl]
      exact hx
/-- a step of a script -/
abbrev Stp := Int × Ent
abbrev opv (x : Stp) : List Value := [.int .i64 x.1, .int .u64 (x.2.st.1 : Int), .int .u64 (x.2.st.2 : Int), .int .u64 (x.2.n : Int)]
def RdO (w : World) (a : Option Addr) (xs : List Stp) : Prop := ∀ j (hj : j < xs.length), ∃ b o, a = some ⟨b, o, none⟩ ∧ w.rangeAt b (o + j * 4) (opv xs[j])
theorem RdO.below {w w' : World} {a : Option Addr} {xs : List Stp} (h : RdO w a xs) (hb : Below w.heap.size w w') : RdO w' a xs := fun j hj => by
  obtain ⟨b, o, h1, h2⟩ := h j hj
  exact ⟨b, o, h1, rangeAt_below h2 hb⟩
section
variable {H : Type} {enc : TypeId × Value → H} {W : World}
theorem open_i {fuel : Nat} {v : Value} {x : DataW H × List MemPlace} (h : DataW.trod enc Try.prog W 0 (fun _ => true) true fuel 3 [v] = some x) : ∃ m : Int, v = .int .i64 m ∧ -9223372036854775808 ≤ m ∧ m ≤ 9223372036854775807 := by
  obtain ⟨z, e, _, wm⟩ := DataW.trod_int Try.underlying3 h
  have h2 : -9223372036854775808 ≤ z ∧ z ≤ 9223372036854775807 := by simpa [Lit.wf, IntKind.min, IntKind.max, IntKind.signed, IntKind.bits] using wm
  simp at e
  exact ⟨z, e, h2⟩
theorem open_u {fuel : Nat} {v : Value} {x : DataW H × List MemPlace} (h : DataW.trod enc Try.prog W 0 (fun _ => true) true fuel 32 [v] = some x) : ∃ m : Nat, v = .int .u64 (m : Int) ∧ m < 18446744073709551616 := by
  obtain ⟨z, e, _, wm⟩ := DataW.trod_int Try.underlying32 h
  have h2 : 0 ≤ z ∧ z ≤ 18446744073709551615 := by simpa [Lit.wf, IntKind.min, IntKind.max, IntKind.signed, IntKind.bits] using wm
  simp at e
  exact ⟨z.toNat, by rw [e, Int.toNat_of_nonneg h2.1], by omega⟩
set_option maxRecDepth 20000 in
theorem open_lops {fuel : Nat} {v : Value} {x : DataW H × List MemPlace} (h : DataW.trod enc Try.prog W 0 (fun _ => true) true fuel 28 [v] = some x) (hw : ∀ n ∈ x.1.weights Try.prog 28, n ≤ reachBytes) :
    ∃ a c, ∃ xs : List Stp, v = .slice a xs.length c ∧ RdO W a xs ∧ xs.length ≤ c ∧ (a = none → c = 0) ∧ xs.length ≤ 4398046511103 := by
  rcases Deep.open_slice Try.underlying28 h with ⟨hcs, _⟩ | ⟨q, len, cap, m, n, D, Pl, hcs, _, hl, hm, hmm, hd, hcell⟩
  · simp at hcs
    exact ⟨none, 0, [], hcs, fun j hj => by simp at hj, Nat.le_refl _, fun _ => rfl, by simp⟩
  · simp at hcs
    simp only [if_true] at hmm
    subst hmm
    have hsz := hw ((len + (m - len)) * Try.prog.bytesOf 36) (by rw [hd]; simp [DataW.weights, Try.underlying28])
    rw [show Try.prog.bytesOf 36 = 32 from by kernel_rfl] at hsz
    simp only [reachBytes] at hsz
    obtain ⟨b, o, s⟩ := q
    have hs0 : 0 < len → s = none := by
      intro h0
      obtain ⟨cs', h1, -⟩ := hcell 0 (by omega)
      rw [cellsLO] at h1
      obtain ⟨_, hlen, hcl⟩ := World.cells?_some h1
      have g0 := hcl 0 (by omega)
      match cs', hlen with
      | [v0, v1, v2, v3], _ =>
        simp [Addr.add] at g0
        simpa using World.cell?_spot g0
    have each : ∀ j, j < len → ∃ y : Stp, s = none ∧ W.rangeAt b (o + j * 4) (opv y) := by
      intro j hj
      obtain ⟨cs', h1, h2⟩ := hcell j (by omega)
      rw [cellsLO] at h1
      obtain ⟨_, hlen, hcl⟩ := World.cells?_some h1
      obtain ⟨y0, y1, y2, n', hxy, _, t0, t1, t2⟩ := Deep.trod_struct3 Try.underlying36 h2
      match cs', hlen with
      | [v0, v1, v2, v3], _ =>
        simp only [cellsLI, cellsLS, cellsLU] at t0 t1 t2
        simp at t0 t1 t2
        obtain ⟨u0, u1, n'', -, -, r0, r1⟩ := trod_struct2 Try.underlying34 t1
        simp only [cellsLU] at r0 r1
        simp at r0 r1
        obtain ⟨z0, rfl, hz0⟩ := open_i t0
        obtain ⟨z1, rfl, hz1⟩ := open_u r0
        obtain ⟨z2, rfl, hz2⟩ := open_u r1
        obtain ⟨z3, rfl, hz3⟩ := open_u t2
        have hs : s = none := hs0 (by omega)
        subst hs
        refine ⟨(z0, ⟨(z1, z2), z3⟩), rfl, fun q u hu => ?_⟩
        have hq : q < 4 := by have := (List.getElem?_eq_some_iff.1 hu).1; simpa using this
        have g := hcl q (by simpa using hq)
        rw [Deep.add_add, Go.WideShapes.add_plain] at g
        rw [Nat.add_assoc, g]
        exact hu
    obtain ⟨l, hll, hlp⟩ := list_of len each
    subst hll
    refine ⟨_, _, l, hcs, fun j hj => ?_, hl, (fun h => by cases h), by omega⟩
    obtain ⟨hs, h1⟩ := hlp j hj
    subst hs
    exact ⟨b, o, rfl, h1⟩
end
end Go.Proofs.Ytibolgpaolnheaa
