import Derived.Test.YtinphflminaijabDoorOpen
import Derived.Deep.Slices
import Derived.Deep.Strs
namespace Go.Proofs.YtinphflminaijabDoor
set_option linter.unusedVariables false
set_option linter.unusedSimpArgs false
open Go.ChangeShapes Go.WideShapes Go.ChangeAt Go.RowKit
/-- n steps can be read from the address on -/
def RdOps (w : World) (so : Option Addr) (n : Nat) : Prop :=
  0 < n → ∃ b o, so = some ⟨b, o, none⟩ ∧ ∀ j, j < n → ∃ (k i : Int) (m : Nat), w.cell? ⟨b, o + j * 3, none⟩ = some (.int .i64 k) ∧ w.cell? ⟨b, o + j * 3 + 1, none⟩ = some (.int .u64 m) ∧ w.cell? ⟨b, o + j * 3 + 2, none⟩ = some (.int .i64 i) ∧ i ≤ 9223372036854775807 ∧ (m : Int) ≤ 18446744073709551615
theorem cells33 : Tryd.prog.cellsOf 40 = 3 := by kernel_rfl
theorem bytes33 : Tryd.prog.bytesOf 40 = 24 := by kernel_rfl
theorem cellsOI : Tryd.prog.cellsOf 3 = 1 := by kernel_rfl
theorem cellsOU : Tryd.prog.cellsOf 38 = 1 := by kernel_rfl
theorem opened_ops {H : Type} {enc : TypeId × Value → H} {W : World} {a : Option Addr} {len cap : Nat} {d : DataW H} {p : List MemPlace}
    (h : DataW.Trod enc Tryd.prog W 0 (fun _ => true) true 34 (.slice a len cap) d p) :
    RdOps W a len ∧ len ≤ cap ∧ (a = none → cap = 0) ∧ (cap = 0 ∨ ∃ el sp, d = .slice el sp ∧ el.length + sp.length = cap) := by
  obtain ⟨fuel, hf⟩ := h
  rcases Deep.open_slice Tryd.underlying34 hf with ⟨hcs, _⟩ | ⟨x, l, c, m, n, D, Pl, hcs, _, hl, hm, hmm, hd, hcell⟩
  · simp [Value.cells] at hcs
    obtain ⟨rfl, rfl, rfl⟩ := hcs
    exact ⟨fun h => absurd h (Nat.lt_irrefl 0), Nat.le_refl _, fun _ => rfl, .inl rfl⟩
  · simp [Value.cells] at hcs
    obtain ⟨rfl, rfl, rfl⟩ := hcs
    simp only [if_true] at hmm
    subst hmm
    simp only [Prod.mk.injEq] at hd
    refine ⟨fun hp => ?_, hl, (fun h => by cases h), .inr ⟨_, _, hd.1, by simp; omega⟩⟩
    obtain ⟨b, o, s⟩ := x
    have each : ∀ j, j < len → ∃ (k i : Int) (m : Nat), W.cell? ((⟨b, o, s⟩ : Addr).add (j * 3)) = some (.int .i64 k) ∧ W.cell? ((⟨b, o, s⟩ : Addr).add (j * 3 + 1)) = some (.int .u64 m) ∧ W.cell? ((⟨b, o, s⟩ : Addr).add (j * 3 + 2)) = some (.int .i64 i) ∧ i ≤ 9223372036854775807 ∧ (m : Int) ≤ 18446744073709551615 := by
      intro j hj
      obtain ⟨cs', h1, h2⟩ := hcell j (by omega)
      rw [cells33] at h1
      obtain ⟨_, hlen, hcl⟩ := World.cells?_some h1
      obtain ⟨y0, y1, y2, n', hxy, _, t0, t1, t2⟩ := Deep.trod_struct3 Tryd.underlying40 h2
      match cs', hlen with
      | [v0, v1, v2], _ =>
        obtain ⟨k, e0, _, wk⟩ := DataW.trod_int Tryd.underlying3 t0
        obtain ⟨m, e1, _, wm⟩ := DataW.trod_int Tryd.underlying38 t1
        obtain ⟨i, e2, _, wi⟩ := DataW.trod_int Tryd.underlying3 t2
        simp [cellsOI, cellsOU] at e0 e1 e2
        have g0 := hcl 0 (by omega)
        have g1 := hcl 1 (by omega)
        have g2 := hcl 2 (by omega)
        rw [Deep.add_add] at g0 g1 g2
        have hi := i64_of wi
        have hm2 : 0 ≤ m ∧ m ≤ 18446744073709551615 := by simpa [Lit.wf, IntKind.min, IntKind.max, IntKind.signed, IntKind.bits] using wm
        refine ⟨k, i, m.toNat, ?_, ?_, ?_, hi.2, by omega⟩
        · rw [← Nat.add_zero (j * 3), g0]; simp [e0]
        · rw [g1]; simp [e1]; omega
        · rw [g2]; simp [e2]
    obtain ⟨k0, i0, m0, hc0, -⟩ := each 0 hp
    obtain rfl : s = none := by simpa [Addr.add] using World.cell?_spot hc0
    refine ⟨b, o, rfl, fun j hj => ?_⟩
    obtain ⟨k, i, m, h0, h1, h2, h3⟩ := each j hj
    rw [Go.WideShapes.add_plain] at h0 h1 h2
    exact ⟨k, i, m, h0, h1, h2, h3⟩
end Go.Proofs.YtinphflminaijabDoor
