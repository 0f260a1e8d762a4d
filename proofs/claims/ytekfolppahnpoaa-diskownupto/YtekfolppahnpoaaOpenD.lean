import Derived.Test.YtekfolppahnpoaaOpen
import Derived.Deep.Slices
import Derived.Deep.Strs
import Derived.Lib.SmallJoins
import Derived.OpenShut
namespace Go.Proofs.Ytekfolppahnpoaa
set_option linter.unusedVariables false
set_option linter.unusedSimpArgs false
open Go.ChangeShapes Go.WideShapes Go.ChangeAt Go.RowKit
theorem list_of {α : Type} {P : Nat → α → Prop} : ∀ (n : Nat), (∀ j, j < n → ∃ x, P j x) → ∃ l : List α, l.length = n ∧ ∀ j (hj : j < l.length), P j l[j]
  | 0, _ => ⟨[], rfl, fun j hj => by simp at hj⟩
  | n + 1, h => by
    obtain ⟨l, hl, hp⟩ := list_of n (fun j hj => h j (by omega))
    obtain ⟨x, hx⟩ := h n (by omega)
    refine ⟨l ++ [x], by simp [hl], fun j hj => ?_⟩
    by_cases e : j < l.length
    · rw [List.getElem_append_left e]; exact hp j e
    · have : j = l.length := by simp at hj; omega
      subst this
      simp
      rw [hl]
      exact hx
/-- a row of ints can be read -/
def RdI (w : World) (a : Option Addr) (xs : List Int) : Prop :=
  0 < xs.length → ∃ b o, a = some ⟨b, o, none⟩ ∧ ∀ j (hj : j < xs.length), w.cell? ⟨b, o + j, none⟩ = some (.int .i64 xs[j])
def I64 (n : Int) : Prop := -9223372036854775808 ≤ n ∧ n ≤ 9223372036854775807
theorem RdI.below {w w' : World} {a : Option Addr} {xs : List Int} (h : RdI w a xs) (hb : Below w.heap.size w w') : RdI w' a xs := by
  intro hp
  obtain ⟨b, o, e, hc⟩ := h hp
  exact ⟨b, o, e, fun j hj => (hb.cell (World.block_lt_of_cell? w _ (hc j hj))).trans (hc j hj)⟩
section
variable {H : Type} {enc : TypeId × Value → H} {W : World}
theorem open_i {fuel : Nat} {v : Value} {x : DataW H × List MemPlace} (h : DataW.trod enc Try.prog W 0 (fun _ => true) true fuel 3 [v] = some x) : ∃ m : Int, v = .int .i64 m ∧ -9223372036854775808 ≤ m ∧ m ≤ 9223372036854775807 := by
  obtain ⟨z, e, _, wm⟩ := DataW.trod_int Try.underlying3 h
  have h2 : -9223372036854775808 ≤ z ∧ z ≤ 9223372036854775807 := by simpa [Lit.wf, IntKind.min, IntKind.max, IntKind.signed, IntKind.bits] using wm
  simp at e
  exact ⟨z, e, h2⟩
theorem open_s {fuel : Nat} {v : Value} {x : DataW H × List MemPlace} (h : DataW.trod enc Try.prog W 0 (fun _ => true) true fuel 40 [v] = some x) (hw : ∀ n ∈ x.1.weights Try.prog 40, n ≤ reachBytes) :
    ∃ a c, ∃ xs : List UInt8, v = .slice a xs.length c ∧ Rd W a xs ∧ xs.length ≤ c ∧ (a = none → c = 0) ∧ c ≤ 140737488351232 := by
  obtain ⟨a2, l2, c2, rfl⟩ : ∃ a2 l2 c2, v = .slice a2 l2 c2 := by
    rcases Deep.open_slice Try.underlying40 h with ⟨hcs, _⟩ | ⟨x, l, c, m, n, D, Pl, hcs, _⟩
    · simp at hcs; exact ⟨_, _, _, hcs⟩
    · simp at hcs; exact ⟨_, _, _, hcs⟩
  obtain ⟨xs, rfl, hr, hlc, hn, hbk⟩ := opened_u8 (d := x.1) (p := x.2) ⟨fuel, h⟩
  refine ⟨a2, c2, xs, rfl, hr, hlc, hn, ?_⟩
  rcases hbk with h0 | ⟨el, sp, he, hc⟩
  · omega
  · have := hw ((el.length + sp.length) * Try.prog.bytesOf 5) (by rw [he]; simp [DataW.weights, Try.underlying40])
    rw [bytes5] at this
    simp only [reachBytes] at this
    omega
set_option maxRecDepth 20000 in
theorem open_is {fuel : Nat} {v : Value} {x : DataW H × List MemPlace} (h : DataW.trod enc Try.prog W 0 (fun _ => true) true fuel 37 [v] = some x) (hw : ∀ n ∈ x.1.weights Try.prog 37, n ≤ reachBytes) :
    ∃ a c, ∃ xs : List Int, v = .slice a xs.length c ∧ RdI W a xs ∧ (∀ n ∈ xs, I64 n) ∧ xs.length ≤ c ∧ (a = none → c = 0) ∧ c ≤ 17592186043904 := by
  rcases Deep.open_slice Try.underlying37 h with ⟨hcs, _⟩ | ⟨q, len, cap, m, n, D, Pl, hcs, _, hl, hm, hmm, hd, hcell⟩
  · simp at hcs
    exact ⟨none, 0, [], hcs, fun h => absurd h (Nat.lt_irrefl 0), by simp, Nat.le_refl _, fun _ => rfl, by simp⟩
  · simp at hcs
    simp only [if_true] at hmm
    subst hmm
    have hsz := hw ((len + (m - len)) * Try.prog.bytesOf 3) (by rw [hd]; simp [DataW.weights, Try.underlying37])
    rw [show Try.prog.bytesOf 3 = 8 from by kernel_rfl] at hsz
    simp only [reachBytes] at hsz
    obtain ⟨b, o, s⟩ := q
    have hs0 : 0 < len → s = none := by
      intro h0
      obtain ⟨cs', h1, -⟩ := hcell 0 (by omega)
      rw [show Try.prog.cellsOf 3 = 1 from by kernel_rfl] at h1
      obtain ⟨_, hlen, hcl⟩ := World.cells?_some h1
      have g0 := hcl 0 (by omega)
      match cs', hlen with
      | [v0], _ =>
        simp [Addr.add] at g0
        simpa using World.cell?_spot g0
    have each : ∀ j, j < len → ∃ y : Int, (s = none ∧ W.cell? ⟨b, o + j, none⟩ = some (.int .i64 y)) ∧ I64 y := by
      intro j hj
      obtain ⟨cs', h1, h2⟩ := hcell j (by omega)
      rw [show Try.prog.cellsOf 3 = 1 from by kernel_rfl] at h1
      obtain ⟨_, hlen, hcl⟩ := World.cells?_some h1
      have g0 := hcl 0 (by omega)
      match cs', hlen with
      | [v0], _ =>
        obtain ⟨y, rfl, hy⟩ := open_i h2
        have hs : s = none := hs0 (by omega)
        subst hs
        rw [Deep.add_add, Go.WideShapes.add_plain] at g0
        refine ⟨y, ⟨rfl, ?_⟩, hy⟩
        simpa using g0
    obtain ⟨l, hll, hlp⟩ := list_of len each
    subst hll
    refine ⟨_, _, l, hcs, fun hp => ?_, fun n hn => ?_, hl, (fun h => by cases h), by omega⟩
    · have hs := (hlp 0 hp).1.1
      subst hs
      exact ⟨b, o, rfl, fun j hj => (hlp j hj).1.2⟩
    · obtain ⟨j, hj, rfl⟩ := List.getElem_of_mem hn
      exact (hlp j hj).2
end
end Go.Proofs.Ytekfolppahnpoaa
