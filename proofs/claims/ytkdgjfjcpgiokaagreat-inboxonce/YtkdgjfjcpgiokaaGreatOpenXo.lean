import Derived.Test.YtkdgjfjcpgiokaaGreatOpenX
import Derived.Test.YtkdgjfjcpgiokaaGreatLxP
namespace Go.Proofs.YtkdgjfjcpgiokaaGreat
set_option linter.unusedVariables false
set_option linter.unusedSimpArgs false
open Go.ChangeShapes Go.WideShapes Go.ChangeAt Go.RowKit
theorem cellsXO : Tryz.prog.cellsOf 69 = 13 := by kernel_rfl
theorem bytesXO : Tryz.prog.bytesOf 69 = 136 := by kernel_rfl
theorem all_mem {H : Type} {P : Program} {e : TypeId} : ∀ {ds : List (DataW H)} {d : DataW H}, d ∈ ds → ∀ n ∈ d.weights P e, n ∈ DataW.weightsAll P e ds
  | [], d, h => by simp at h
  | d0 :: r, d, h => by
    intro n hn
    simp only [DataW.weightsAll, List.mem_append]
    rcases List.mem_cons.1 h with rfl | h
    · exact .inl hn
    · exact .inr (all_mem h n hn)
section
variable {H : Type} {enc : TypeId × Value → H} {W : World}
set_option maxRecDepth 20000 in
theorem opened_xop {fuel : Nat} {cs : List Value} {x : DataW H × List MemPlace} (h : DataW.trod enc Tryz.prog W 0 (fun _ => true) true fuel 69 cs = some x) (hlc : cs.length = 13) (hw : ∀ n ∈ x.1.weights Tryz.prog 69, n ≤ reachBytes) :
    ∃ y : OpX, OpOk W y ∧ cs = y.c.toList := by
  obtain ⟨ys, n', _, hx, _, hlx, hfl⟩ := DataW.trod_struct Tryz.underlying69 h
  match cs, hlc, ys, hlx with
  | [v0, v1, v2, v3, v4, v5, v6, v7, v8, v9, v10, v11, v12], _, [y0, y1, y2, y3, y4], _ =>
    have t0 := hfl 0 _ rfl
    have t1 := hfl 1 _ rfl
    have t2 := hfl 2 _ rfl
    have t3 := hfl 3 _ rfl
    have t4 := hfl 4 _ rfl
    simp [cellsRI, cellsRU, cellsUn] at t0 t1 t2 t3 t4
    have hxd : x.1 = .agg [y0.1, y1.1, y2.1, y3.1, y4.1] := by
      have := congrArg Prod.fst hx
      simpa using this
    obtain ⟨z0, rfl, -⟩ := open_i t0
    obtain ⟨e, rfl, he⟩ := open_u t2
    obtain ⟨n, rfl, hn⟩ := open_u t3
    obtain ⟨z4, rfl, -⟩ := open_i t4
    obtain ⟨u, hu, eu⟩ := open_unit t1 (by simp) (fun n hn => hw n (by
      rw [hxd]
      simp only [DataW.weights, Tryz.underlying69]
      exact DataW.weights_mem_each (j := 1) (t := 27) (d := y1.1) rfl rfl n hn))
    simp only [UnM.c, unC, List.cons.injEq, and_true] at eu
    obtain ⟨rfl, rfl, rfl, rfl, rfl, rfl, rfl, rfl, rfl⟩ := eu
    exact ⟨⟨z0, u, e, n, z4⟩, ⟨hu, ⟨he, hn⟩⟩, rfl⟩
set_option maxRecDepth 20000 in
theorem open_xops {fuel : Nat} {v : Value} {x : DataW H × List MemPlace} (h : DataW.trod enc Tryz.prog W 0 (fun _ => true) true fuel 65 [v] = some x) (hw : ∀ n ∈ x.1.weights Tryz.prog 65, n ≤ reachBytes) :
    ∃ a c, ∃ xs : List OpX, v = .slice a xs.length c ∧ RdX W a xs ∧ xs.length ≤ c ∧ (a = none → c = 0) ∧ xs.length ≤ 4398046511103 := by
  rcases Deep.open_slice Tryz.underlying65 h with ⟨hcs, _⟩ | ⟨q, len, cap, m, n, D, Pl, hcs, _, hl, hm, hmm, hd, hcell⟩
  · simp at hcs
    exact ⟨none, 0, [], hcs, fun j hj => by simp at hj, Nat.le_refl _, fun _ => rfl, by simp⟩
  · simp at hcs
    simp only [if_true] at hmm
    subst hmm
    have hsz := hw ((len + (m - len)) * Tryz.prog.bytesOf 69) (by rw [hd]; simp [DataW.weights, Tryz.underlying65])
    rw [bytesXO] at hsz
    simp only [reachBytes] at hsz
    obtain ⟨b, o, s⟩ := q
    have hs0 : 0 < len → s = none := by
      intro h0
      obtain ⟨cs', h1, -⟩ := hcell 0 (by omega)
      rw [cellsXO] at h1
      obtain ⟨_, hlen, hcl⟩ := World.cells?_some h1
      have g0 := hcl 0 (by omega)
      match cs', hlen with
      | v0 :: r0, _ =>
        simp [Addr.add] at g0
        simpa using World.cell?_spot g0
    have each : ∀ j, j < len → ∃ y : OpX, s = none ∧ OpOk W y ∧ W.rangeAt b (o + j * 13) (y.c.toList) := by
      intro j hj
      obtain ⟨cs', h1, h2⟩ := hcell j (by omega)
      rw [cellsXO] at h1
      obtain ⟨_, hlen, hcl⟩ := World.cells?_some h1
      obtain ⟨y, hok, hy⟩ := opened_xop h2 hlen (fun n hn => hw n (by
        rw [hd]
        simp only [DataW.weights, Tryz.underlying65, List.mem_cons, List.mem_append]
        exact .inr (.inl (all_mem (List.mem_map.2 ⟨j, List.mem_range.2 hj, rfl⟩) n hn))))
      subst hy
      have hs : s = none := hs0 (by omega)
      subst hs
      refine ⟨y, rfl, hok, fun q u hu => ?_⟩
      have hq : q < 13 := by have := (List.getElem?_eq_some_iff.1 hu).1; simpa using this
      have g := hcl q (by simpa using hq)
      rw [Deep.add_add, Go.WideShapes.add_plain] at g
      rw [Nat.add_assoc, g]
      exact hu
    obtain ⟨l, hll, hlp⟩ := list_of len each
    subst hll
    refine ⟨_, _, l, hcs, fun j hj => ?_, hl, (fun h => by cases h), by omega⟩
    obtain ⟨hs, h0, h1⟩ := hlp j hj
    subst hs
    exact ⟨b, o, rfl, h1, h0⟩
end
end Go.Proofs.YtkdgjfjcpgiokaaGreat
