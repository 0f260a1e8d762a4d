import Derived.Test.YtdpkommmkcmifaaOpenFr
namespace Go.Proofs.Ytdpkommmkcmifaa
set_option linter.unusedVariables false
set_option linter.unusedSimpArgs false
open Go.ChangeShapes Go.WideShapes Go.ChangeAt Go.RowKit
/-- a row of numbers can be read -/
def RdW (w : World) (a : Option Addr) (xs : List Nat) : Prop :=
  0 < xs.length → ∃ b o, a = some ⟨b, o, none⟩ ∧ ∀ j (hj : j < xs.length), w.cell? ⟨b, o + j, none⟩ = some (.int .u64 (xs[j] : Nat)) ∧ xs[j] < 18446744073709551616
theorem RdW.below {w w' : World} {a : Option Addr} {xs : List Nat} (h : RdW w a xs) (hb : Below w.heap.size w w') : RdW w' a xs := by
  intro hp
  obtain ⟨b, o, e, hc⟩ := h hp
  refine ⟨b, o, e, fun j hj => ⟨?_, (hc j hj).2⟩⟩
  exact (hb.cell (World.block_lt_of_cell? w _ (hc j hj).1)).trans (hc j hj).1
section
variable {H : Type} {enc : TypeId × Value → H} {W : World}
set_option maxRecDepth 20000 in
theorem open_us {fuel : Nat} {v : Value} {x : DataW H × List MemPlace} (h : DataW.trod enc Try.prog W 0 (fun _ => true) true fuel 74 [v] = some x) (hw : ∀ n ∈ x.1.weights Try.prog 74, n ≤ reachBytes) :
    ∃ a c, ∃ xs : List Nat, v = .slice a xs.length c ∧ RdW W a xs ∧ xs.length ≤ c ∧ (a = none → c = 0) ∧ xs.length ≤ 17592186044416 := by
  rcases Deep.open_slice Try.underlying74 h with ⟨hcs, _⟩ | ⟨q, len, cap, m, n, D, Pl, hcs, _, hl, hm, hmm, hd, hcell⟩
  · simp at hcs
    exact ⟨none, 0, [], hcs, fun h => absurd h (Nat.lt_irrefl 0), Nat.le_refl _, fun _ => rfl, by simp⟩
  · simp at hcs
    simp only [if_true] at hmm
    subst hmm
    have hsz := hw ((len + (m - len)) * Try.prog.bytesOf 22) (by rw [hd]; simp [DataW.weights, Try.underlying74])
    rw [show Try.prog.bytesOf 22 = 8 from by kernel_rfl] at hsz
    simp only [reachBytes] at hsz
    obtain ⟨b, o, s⟩ := q
    have hs0 : 0 < len → s = none := by
      intro h0
      obtain ⟨cs', h1, -⟩ := hcell 0 (by omega)
      rw [show Try.prog.cellsOf 22 = 1 from by kernel_rfl] at h1
      obtain ⟨_, hlen, hcl⟩ := World.cells?_some h1
      have g0 := hcl 0 (by omega)
      match cs', hlen with
      | [v0], _ =>
        simp [Addr.add] at g0
        simpa using World.cell?_spot g0
    have each : ∀ j, j < len → ∃ y : Nat, (s = none ∧ W.cell? ⟨b, o + j, none⟩ = some (.int .u64 (y : Nat))) ∧ y < 18446744073709551616 := by
      intro j hj
      obtain ⟨cs', h1, h2⟩ := hcell j (by omega)
      rw [show Try.prog.cellsOf 22 = 1 from by kernel_rfl] at h1
      obtain ⟨_, hlen, hcl⟩ := World.cells?_some h1
      have g0 := hcl 0 (by omega)
      match cs', hlen with
      | [v0], _ =>
        obtain ⟨y, rfl, hy⟩ := open_u h2
        have hs : s = none := hs0 (by omega)
        subst hs
        rw [Deep.add_add, Go.WideShapes.add_plain] at g0
        refine ⟨y, ⟨rfl, ?_⟩, hy⟩
        simpa using g0
    obtain ⟨l, hll, hlp⟩ := list_of len each
    subst hll
    refine ⟨_, _, l, hcs, fun hp => ?_, hl, (fun h => by cases h), by omega⟩
    have hs := (hlp 0 hp).1.1
    subst hs
    exact ⟨b, o, rfl, fun j hj => ⟨(hlp j hj).1.2, (hlp j hj).2⟩⟩
set_option maxRecDepth 20000 in
theorem open_ways {fuel : Nat} {v : Value} {x : DataW H × List MemPlace} (h : DataW.trod enc Try.prog W 0 (fun _ => true) true fuel 64 [v] = some x) (hw : ∀ n ∈ x.1.weights Try.prog 64, n ≤ reachBytes) :
    ∃ a c, ∃ xs : List Nat, v = .slice a xs.length c ∧ RdW W a xs ∧ xs.length ≤ c ∧ (a = none → c = 0) ∧ xs.length ≤ 17592186044416 := by
  rcases Deep.open_slice Try.underlying64 h with ⟨hcs, _⟩ | ⟨q, len, cap, m, n, D, Pl, hcs, _, hl, hm, hmm, hd, hcell⟩
  · simp at hcs
    exact ⟨none, 0, [], hcs, fun h => absurd h (Nat.lt_irrefl 0), Nat.le_refl _, fun _ => rfl, by simp⟩
  · simp at hcs
    simp only [if_true] at hmm
    subst hmm
    have hsz := hw ((len + (m - len)) * Try.prog.bytesOf 68) (by rw [hd]; simp [DataW.weights, Try.underlying64])
    rw [show Try.prog.bytesOf 68 = 8 from by kernel_rfl] at hsz
    simp only [reachBytes] at hsz
    obtain ⟨b, o, s⟩ := q
    have hs0 : 0 < len → s = none := by
      intro h0
      obtain ⟨cs', h1, -⟩ := hcell 0 (by omega)
      rw [show Try.prog.cellsOf 68 = 1 from by kernel_rfl] at h1
      obtain ⟨_, hlen, hcl⟩ := World.cells?_some h1
      have g0 := hcl 0 (by omega)
      match cs', hlen with
      | [v0], _ =>
        simp [Addr.add] at g0
        simpa using World.cell?_spot g0
    have each : ∀ j, j < len → ∃ y : Nat, (s = none ∧ W.cell? ⟨b, o + j, none⟩ = some (.int .u64 (y : Nat))) ∧ y < 18446744073709551616 := by
      intro j hj
      obtain ⟨cs', h1, h2⟩ := hcell j (by omega)
      rw [show Try.prog.cellsOf 68 = 1 from by kernel_rfl] at h1
      obtain ⟨_, hlen, hcl⟩ := World.cells?_some h1
      have g0 := hcl 0 (by omega)
      match cs', hlen with
      | [v0], _ =>
        obtain ⟨xs, n1, _, hx1, _, hlen1, hfl1⟩ := DataW.trod_struct Try.underlying68 h2
        match xs, hlen1 with
        | [z0], _ =>
        have t0 := hfl1 0 _ rfl
        simp [cellsU] at t0
        obtain ⟨y, rfl, hy⟩ := open_u t0
        have hs : s = none := hs0 (by omega)
        subst hs
        rw [Deep.add_add, Go.WideShapes.add_plain] at g0
        refine ⟨y, ⟨rfl, ?_⟩, hy⟩
        simpa using g0
    obtain ⟨l, hll, hlp⟩ := list_of len each
    subst hll
    refine ⟨_, _, l, hcs, fun hp => ?_, hl, (fun h => by cases h), by omega⟩
    have hs := (hlp 0 hp).1.1
    subst hs
    exact ⟨b, o, rfl, fun j hj => ⟨(hlp j hj).1.2, (hlp j hj).2⟩⟩
end
end Go.Proofs.Ytdpkommmkcmifaa
