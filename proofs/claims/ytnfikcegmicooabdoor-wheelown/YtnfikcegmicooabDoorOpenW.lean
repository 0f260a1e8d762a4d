import Derived.Test.YtnfikcegmicooabDoorWWNil
import Derived.ProofKit
import Derived.OpenShut
import Derived.SizedLaws
import Derived.Below
import Derived.Deep.Slices
import Derived.Deep.Strs
import Derived.Lib.SmallJoins
import Derived.ChangeSame
namespace Go.Proofs.YtnfikcegmicooabDoor
set_option linter.unusedVariables false
set_option linter.unusedSimpArgs false
open Go.ChangeShapes Go.WideShapes Go.ChangeAt Go.RowKit
theorem ownKn : ownKnob Tryd.prog.godebug = none := by kernel_rfl
theorem laidOut : laidOutB Tryd.prog = true := by kernel_rfl
theorem cellsLO : Tryd.prog.cellsOf 34 = 4 := by kernel_rfl
theorem cellsLI : Tryd.prog.cellsOf 3 = 1 := by kernel_rfl
theorem cellsLU : Tryd.prog.cellsOf 22 = 1 := by kernel_rfl
theorem list_of {α : Type} {P : Nat → α → Prop} : ∀ (n : Nat), (∀ j, j < n → ∃ x, P j x) → ∃ l : List α, l.length = n ∧ ∀ j (hj : j < l.length), P j l[j]
  | 0, _ => ⟨[], rfl, fun j hj => by simp at hj⟩
  | n + 1, h => by
    obtain ⟨l, hl, hp⟩ := list_of n (fun j hj => h j (by omega))
    obtain ⟨x, hx⟩ := h n (by omega)
    refine ⟨l ++ [x], by simp [hl], fun j hj => ?_⟩
    by_cases e : j < l.length
    · rw [List.getElem_append_left e]; exact hp j e
    · have : j = l.length := by simp at hj; omega
      subst this
      simp
      rw [hl]
      exact hx
/-- a call of a script -/
structure Wop where
  on : Int
  kind : Int
  id : Int
  at_ : Nat
def Wop.ok (x : Wop) : Prop := inI x.on ∧ inI x.kind ∧ inI x.id ∧ x.at_ < 18446744073709551616
abbrev wopv (x : Wop) : List Value := [.int .i64 x.on, .int .i64 x.kind, .int .i64 x.id, .int .u64 (x.at_ : Int)]
def RdW (w : World) (a : Option Addr) (xs : List Wop) : Prop := ∀ j (hj : j < xs.length), ∃ b o, a = some ⟨b, o, none⟩ ∧ xs[j].ok ∧ w.rangeAt b (o + j * 4) (wopv xs[j])
theorem RdW.below {w w' : World} {a : Option Addr} {xs : List Wop} (h : RdW w a xs) (hb : Below w.heap.size w w') : RdW w' a xs := fun j hj => by
  obtain ⟨b, o, h1, h0, h2⟩ := h j hj
  exact ⟨b, o, h1, h0, rangeAt_below h2 hb⟩
def RdU (w : World) (a : Option Addr) (xs : List Nat) : Prop :=
  0 < xs.length → ∃ b o, a = some ⟨b, o, none⟩ ∧ ∀ j (hj : j < xs.length), w.cell? ⟨b, o + j, none⟩ = some (.int .u64 (xs[j] : Nat)) ∧ xs[j] < 18446744073709551616
theorem RdU.below {w w' : World} {a : Option Addr} {xs : List Nat} (h : RdU w a xs) (hb : Below w.heap.size w w') : RdU w' a xs := by
  intro hp
  obtain ⟨b, o, e, hc⟩ := h hp
  refine ⟨b, o, e, fun j hj => ⟨?_, (hc j hj).2⟩⟩
  exact (hb.cell (World.block_lt_of_cell? w _ (hc j hj).1)).trans (hc j hj).1
section
variable {H : Type} {enc : TypeId × Value → H} {W : World}
theorem open_i {fuel : Nat} {v : Value} {x : DataW H × List MemPlace} (h : DataW.trod enc Tryd.prog W 0 (fun _ => true) true fuel 3 [v] = some x) : ∃ m : Int, v = .int .i64 m ∧ -9223372036854775808 ≤ m ∧ m ≤ 9223372036854775807 := by
  obtain ⟨z, e, _, wm⟩ := DataW.trod_int Tryd.underlying3 h
  have h2 : -9223372036854775808 ≤ z ∧ z ≤ 9223372036854775807 := by simpa [Lit.wf, IntKind.min, IntKind.max, IntKind.signed, IntKind.bits] using wm
  simp at e
  exact ⟨z, e, h2⟩
theorem open_u {fuel : Nat} {v : Value} {x : DataW H × List MemPlace} (h : DataW.trod enc Tryd.prog W 0 (fun _ => true) true fuel 22 [v] = some x) : ∃ m : Nat, v = .int .u64 (m : Int) ∧ m < 18446744073709551616 := by
  obtain ⟨z, e, _, wm⟩ := DataW.trod_int Tryd.underlying22 h
  have h2 : 0 ≤ z ∧ z ≤ 18446744073709551615 := by simpa [Lit.wf, IntKind.min, IntKind.max, IntKind.signed, IntKind.bits] using wm
  simp at e
  exact ⟨z.toNat, by rw [e, Int.toNat_of_nonneg h2.1], by omega⟩
set_option maxRecDepth 20000 in
theorem open_wops {fuel : Nat} {v : Value} {x : DataW H × List MemPlace} (h : DataW.trod enc Tryd.prog W 0 (fun _ => true) true fuel 23 [v] = some x) (hw : ∀ n ∈ x.1.weights Tryd.prog 23, n ≤ reachBytes) :
    ∃ a c, ∃ xs : List Wop, v = .slice a xs.length c ∧ RdW W a xs ∧ xs.length ≤ c ∧ (a = none → c = 0) ∧ xs.length ≤ 4398046511103 := by
  rcases Deep.open_slice Tryd.underlying23 h with ⟨hcs, _⟩ | ⟨q, len, cap, m, n, D, Pl, hcs, _, hl, hm, hmm, hd, hcell⟩
  · simp at hcs
    exact ⟨none, 0, [], hcs, fun j hj => by simp at hj, Nat.le_refl _, fun _ => rfl, by simp⟩
  · simp at hcs
    simp only [if_true] at hmm
    subst hmm
    have hsz := hw ((len + (m - len)) * Tryd.prog.bytesOf 34) (by rw [hd]; simp [DataW.weights, Tryd.underlying23])
    rw [show Tryd.prog.bytesOf 34 = 32 from by kernel_rfl] at hsz
    simp only [reachBytes] at hsz
    obtain ⟨b, o, s⟩ := q
    have hs0 : 0 < len → s = none := by
      intro h0
      obtain ⟨cs', h1, -⟩ := hcell 0 (by omega)
      rw [cellsLO] at h1
      obtain ⟨_, hlen, hcl⟩ := World.cells?_some h1
      have g0 := hcl 0 (by omega)
      match cs', hlen with
      | [v0, v1, v2, v3], _ =>
        simp [Addr.add] at g0
        simpa using World.cell?_spot g0
    have each : ∀ j, j < len → ∃ y : Wop, s = none ∧ y.ok ∧ W.rangeAt b (o + j * 4) (wopv y) := by
      intro j hj
      obtain ⟨cs', h1, h2⟩ := hcell j (by omega)
      rw [cellsLO] at h1
      obtain ⟨_, hlen, hcl⟩ := World.cells?_some h1
      obtain ⟨y0, y1, y2, y3, n', hxy, _, t0, t1, t2, t3⟩ := Go.Joins.trod_struct4 Tryd.underlying34 h2
      match cs', hlen with
      | [v0, v1, v2, v3], _ =>
        simp only [cellsLI, cellsLU] at t0 t1 t2 t3
        simp at t0 t1 t2 t3
        obtain ⟨z0, rfl, hz0⟩ := open_i t0
        obtain ⟨z1, rfl, hz1⟩ := open_i t1
        obtain ⟨z2, rfl, hz2⟩ := open_i t2
        obtain ⟨z3, rfl, hz3⟩ := open_u t3
        have hs : s = none := hs0 (by omega)
        subst hs
        refine ⟨⟨z0, z1, z2, z3⟩, rfl, ⟨hz0, hz1, hz2, hz3⟩, fun q u hu => ?_⟩
        have hq : q < 4 := by have := (List.getElem?_eq_some_iff.1 hu).1; simpa using this
        have g := hcl q (by simpa using hq)
        rw [Deep.add_add, Go.WideShapes.add_plain] at g
        rw [Nat.add_assoc, g]
        exact hu
    obtain ⟨l, hll, hlp⟩ := list_of len each
    subst hll
    refine ⟨_, _, l, hcs, fun j hj => ?_, hl, (fun h => by cases h), by omega⟩
    obtain ⟨hs, h0, h1⟩ := hlp j hj
    subst hs
    exact ⟨b, o, rfl, h0, h1⟩
theorem opened_wops {a : Option Addr} {len cap : Nat} {d : DataW H} {p : List MemPlace} (h : DataW.Trod enc Tryd.prog W 0 (fun _ => true) true 23 (.slice a len cap) d p) (hw : ∀ n ∈ d.weights Tryd.prog 23, n ≤ reachBytes) :
    ∃ xs : List Wop, len = xs.length ∧ RdW W a xs ∧ len ≤ 4398046511103 := by
  obtain ⟨fuel, hf⟩ := h
  obtain ⟨a', c', xs, hv, h1, h2, h3, h4⟩ := open_wops (fuel := fuel) (v := .slice a len cap) (x := (d, p)) hf hw
  obtain ⟨rfl, rfl, rfl⟩ := Value.slice.inj hv
  exact ⟨xs, rfl, h1, h4⟩
end
end Go.Proofs.YtnfikcegmicooabDoor
