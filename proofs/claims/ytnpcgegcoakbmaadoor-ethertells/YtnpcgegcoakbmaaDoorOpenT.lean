import Derived.Test.YtnpcgegcoakbmaaDoorOpenE
import Derived.Test.YtnpcgegcoakbmaaDoorTEb
import Derived.Test.YtnpcgegcoakbmaaDoorLiftE
import Derived.LaidSub
namespace Go.Proofs.YtnpcgegcoakbmaaDoor
set_option linter.unusedVariables false
set_option linter.unusedSimpArgs false
open Go.ChangeShapes Go.WideShapes Go.ChangeAt Go.RowKit
theorem bytesES : Tryd.prog.bytesOf 26 = 24 := by kernel_rfl
section
variable {H : Type} {enc : TypeId × Value → H} {W : World}
set_option maxRecDepth 20000 in
theorem open_texts {fuel : Nat} {v : Value} {x : DataW H × List MemPlace} (h : DataW.trod enc Tryd.prog W 0 (fun _ => true) true fuel 39 [v] = some x) (hw : ∀ n ∈ x.1.weights Tryd.prog 39, n ≤ reachBytes) :
    ∃ a c, ∃ xs : List Tx, v = .slice a xs.length c ∧ RdT W a xs ∧ xs.length ≤ c ∧ (a = none → c = 0) ∧ xs.length ≤ 8796093022208 := by
  rcases Deep.open_slice Tryd.underlying39 h with ⟨hcs, _⟩ | ⟨q, len, cap, m, n, D, Pl, hcs, _, hl, hm, hmm, hd, hcell⟩
  · simp at hcs
    exact ⟨none, 0, [], hcs, fun j hj => by simp at hj, Nat.le_refl _, fun _ => rfl, by simp⟩
  · simp at hcs
    simp only [if_true] at hmm
    subst hmm
    have hsz := hw ((len + (m - len)) * Tryd.prog.bytesOf 26) (by rw [hd]; simp [DataW.weights, Tryd.underlying39])
    rw [bytesES] at hsz
    simp only [reachBytes] at hsz
    obtain ⟨b, o, s⟩ := q
    have hs0 : 0 < len → s = none := by
      intro h0
      obtain ⟨cs', h1, -⟩ := hcell 0 (by omega)
      rw [cellsES] at h1
      obtain ⟨_, hlen, hcl⟩ := World.cells?_some h1
      have g0 := hcl 0 (by omega)
      match cs', hlen with
      | [v0], _ =>
        simp [Addr.add] at g0
        simpa using World.cell?_spot g0
    have each : ∀ j, j < len → ∃ y : Tx, s = none ∧ TxOk W y ∧ W.cell? ⟨b, o + j, none⟩ = some (.slice y.a y.n y.c) := by
      intro j hj
      obtain ⟨cs', h1, h2⟩ := hcell j (by omega)
      rw [cellsES] at h1
      obtain ⟨_, hlen, hcl⟩ := World.cells?_some h1
      have g0 := hcl 0 (by omega)
      match cs', hlen with
      | [v0], _ =>
        obtain ⟨a2, c2, xs, rfl, hr2, hl2, hn2, hc2⟩ := open_s h2 (fun n hn => hw n (by
          rw [hd]
          simp only [DataW.weights, Tryd.underlying39, List.mem_cons, List.mem_append]
          exact .inr (.inl (all_mem (List.mem_map.2 ⟨j, List.mem_range.2 hj, rfl⟩) n hn))))
        have hs : s = none := hs0 (by omega)
        subst hs
        rw [Deep.add_add, Go.WideShapes.add_plain] at g0
        exact ⟨⟨a2, xs.length, c2, xs⟩, rfl, ⟨rfl, hr2, hn2, hl2, hc2⟩, by simpa using g0⟩
    obtain ⟨l, hll, hlp⟩ := list_of len each
    subst hll
    refine ⟨_, _, l, hcs, fun j hj => ?_, hl, (fun h => by cases h), by omega⟩
    obtain ⟨hs, h0, h1⟩ := hlp j hj
    subst hs
    exact ⟨b, o, rfl, h0, h1⟩
theorem opened_texts {a : Option Addr} {len cap : Nat} {d : DataW H} {p : List MemPlace} (h : DataW.Trod enc Tryd.prog W 0 (fun _ => true) true 39 (.slice a len cap) d p) (hw : ∀ n ∈ d.weights Tryd.prog 39, n ≤ reachBytes) :
    ∃ xs : List Tx, len = xs.length ∧ RdT W a xs ∧ len ≤ 8796093022208 := by
  obtain ⟨fuel, hf⟩ := h
  obtain ⟨a', c', xs, hv, h1, h2, h3, h4⟩ := open_texts (fuel := fuel) (v := .slice a len cap) (x := (d, p)) hf hw
  obtain ⟨rfl, rfl, rfl⟩ := Value.slice.inj hv
  exact ⟨xs, rfl, h1, h4⟩
end
def tabNameS : String := (Rows.etherTellsRow.named).headD default
theorem gTabS : Tryd.prog.globalNamed tabNameS = some 1 := by kernel_rfl
theorem gTabSType : (Tryd.prog.globals[1]?).map (·.type) = some 82 := by kernel_rfl
theorem cellsTabS : Tryd.prog.cellsOf 82 = 16 := by kernel_rfl
theorem cellsU32S : Tryd.prog.cellsOf 34 = 1 := by kernel_rfl
theorem tabOk_of {W : World} {row : OpenClaim} (hrow : row.laid = [(tabNameS, Rows.laid_halyard_octet_sums)]) (h : laidMetH Tryd.prog row.laid W) : TabOk W := by
  rw [hrow] at h
  have ht : Lib.TabIs Tryd.prog W tabNameS .u32 tab :=
    Lib.tabIs_of_head (rest := []) gTabS gTabSType Tryd.underlying82 Tryd.underlying34 cellsU32S cellsTabS h
  intro m
  have hlt : (m % 16).toNat < 16 := by omega
  exact ht.cell gTabS (m % 16).toNat hlt
theorem tells_z {W : World} (h : laidMetH Tryd.prog Rows.etherTellsRow.laid W) : TabZ W :=
  tabZ_of (row := { Rows.etherTellsRow with laid := [(tabNameZ, Rows.laid_math_bits_deBruijn32tab)] }) rfl (laidMetH.filter (fun x => x.1 == tabNameZ) h)
theorem tells_s {W : World} (h : laidMetH Tryd.prog Rows.etherTellsRow.laid W) : TabOk W :=
  tabOk_of (row := { Rows.etherTellsRow with laid := [(tabNameS, Rows.laid_halyard_octet_sums)] }) rfl (laidMetH.filter (fun x => x.1 == tabNameS) h)
end Go.Proofs.YtnpcgegcoakbmaaDoor
