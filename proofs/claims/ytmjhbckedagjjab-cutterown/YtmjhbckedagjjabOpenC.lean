import Derived.Test.YtmjhbckedagjjabLCd
import Derived.Test.YtmjhbckedagjjabOpen
import Derived.Deep.Slices
import Derived.Deep.Strs
import Derived.Lib.SmallJoins
import Derived.OpenShut
import Derived.ChangeSame
namespace Go.Proofs.Ytmjhbckedagjjab
set_option linter.unusedVariables false
set_option linter.unusedSimpArgs false
open Go.ChangeShapes Go.WideShapes Go.ChangeAt Go.RowKit
theorem arr2 {α : Type} {cs : Array α} (h : cs.size = 2) : ∃ c0 c1, cs = #[c0, c1] := by
  obtain ⟨l⟩ := cs
  match l, h with
  | [a, b], _ => exact ⟨a, b, rfl⟩
theorem cellsSC : Try.prog.cellsOf 24 = 2 := by kernel_rfl
theorem cellsSL : Try.prog.cellsOf 22 = 1 := by kernel_rfl
theorem cellsEO : Try.prog.cellsOf 32 = 3 := by kernel_rfl
theorem cellsEI : Try.prog.cellsOf 3 = 1 := by kernel_rfl
theorem cellsES : Try.prog.cellsOf 30 = 1 := by kernel_rfl
theorem bytesEO : Try.prog.bytesOf 32 = 40 := by kernel_rfl
theorem list_of {α : Type} {P : Nat → α → Prop} : ∀ (n : Nat), (∀ j, j < n → ∃ x, P j x) → ∃ l : List α, l.length = n ∧ ∀ j (hj : j < l.length), P j l[j]
  | 0, _ => ⟨[], rfl, fun j hj => by simp at hj⟩
  | n + 1, h => by
    obtain ⟨l, hl, hp⟩ := list_of n (fun j hj => h j (by omega))
    obtain ⟨x, hx⟩ := h n (by omega)
    refine ⟨l ++ [x], by simp [hl], fun j hj => ?_⟩
    by_cases e : j < l.length
    · rw [List.getElem_append_left e]; exact hp j e
    · have : j = l.length := by simp at hj; omega
      subst this
      simp
      rw [hl]
      exact hx
theorem all_mem {H : Type} {P : Program} {e : TypeId} : ∀ {ds : List (DataW H)} {d : DataW H}, d ∈ ds → ∀ n ∈ d.weights P e, n ∈ DataW.weightsAll P e ds
  | [], d, h => by simp at h
  | d0 :: r, d, h => by
    intro n hn
    simp only [DataW.weightsAll, List.mem_append]
    rcases List.mem_cons.1 h with rfl | h
    · exact .inl hn
    · exact .inr (all_mem h n hn)
section
variable {H : Type} {enc : TypeId × Value → H} {W : World}
theorem open_i {fuel : Nat} {v : Value} {x : DataW H × List MemPlace} (h : DataW.trod enc Try.prog W 0 (fun _ => true) true fuel 3 [v] = some x) : ∃ m : Int, v = .int .i64 m ∧ -9223372036854775808 ≤ m ∧ m ≤ 9223372036854775807 := by
  obtain ⟨z, e, _, wm⟩ := DataW.trod_int Try.underlying3 h
  have h2 : -9223372036854775808 ≤ z ∧ z ≤ 9223372036854775807 := by simpa [Lit.wf, IntKind.min, IntKind.max, IntKind.signed, IntKind.bits] using wm
  simp at e
  exact ⟨z, e, h2⟩
theorem open_s {fuel : Nat} {v : Value} {x : DataW H × List MemPlace} (h : DataW.trod enc Try.prog W 0 (fun _ => true) true fuel 30 [v] = some x) (hw : ∀ n ∈ x.1.weights Try.prog 30, n ≤ reachBytes) :
    ∃ a c, ∃ xs : List UInt8, v = .slice a xs.length c ∧ Rd W a xs ∧ xs.length ≤ c ∧ (a = none → c = 0) ∧ c ≤ 140737488351232 := by
  obtain ⟨a2, l2, c2, rfl⟩ : ∃ a2 l2 c2, v = .slice a2 l2 c2 := by
    rcases Deep.open_slice Try.underlying30 h with ⟨hcs, _⟩ | ⟨x, l, c, m, n, D, Pl, hcs, _⟩
    · simp at hcs; exact ⟨_, _, _, hcs⟩
    · simp at hcs; exact ⟨_, _, _, hcs⟩
  obtain ⟨xs, rfl, hr, hlc, hn, hbk⟩ := opened_u8 (d := x.1) (p := x.2) ⟨fuel, h⟩
  refine ⟨a2, c2, xs, rfl, hr, hlc, hn, ?_⟩
  rcases hbk with h0 | ⟨el, sp, he, hc⟩
  · omega
  · have := hw ((el.length + sp.length) * Try.prog.bytesOf 5) (by rw [he]; simp [DataW.weights, Try.underlying30])
    rw [bytes5] at this
    simp only [reachBytes] at this
    omega
set_option maxRecDepth 20000 in
theorem opened_op {fuel : Nat} {cs : List Value} {x : DataW H × List MemPlace} (h : DataW.trod enc Try.prog W 0 (fun _ => true) true fuel 32 cs = some x) (hlc : cs.length = 3) (hw : ∀ n ∈ x.1.weights Try.prog 32, n ≤ reachBytes) :
    ∃ y : OpD, OpOk W y ∧ cs = opl y := by
  obtain ⟨ys, n', _, hx, _, hlx, hfl⟩ := DataW.trod_struct Try.underlying32 h
  match cs, hlc, ys, hlx with
  | [v0, v1, v2], _, [y0, y1, y2], _ =>
    have t0 := hfl 0 _ rfl
    have t1 := hfl 1 _ rfl
    have t2 := hfl 2 _ rfl
    simp [cellsEI, cellsES] at t0 t1 t2
    have hxd : x.1 = .agg [y0.1, y1.1, y2.1] := by
      have := congrArg Prod.fst hx
      simpa using this
    obtain ⟨z0, rfl, -⟩ := open_i t0
    obtain ⟨z1, rfl, h1⟩ := open_i t1
    obtain ⟨a, c, xs, rfl, hr, hlc, hn, hc⟩ := open_s t2 (fun n hn => hw n (by
      rw [hxd]
      simp only [DataW.weights, Try.underlying32]
      exact DataW.weights_mem_each (j := 2) (t := 30) (d := y2.1) rfl rfl n hn))
    exact ⟨⟨z0, z1, a, xs.length, c, xs⟩, ⟨rfl, hr, hn, by simp only; omega, h1⟩, rfl⟩
set_option maxRecDepth 20000 in
theorem open_cops {fuel : Nat} {v : Value} {x : DataW H × List MemPlace} (h : DataW.trod enc Try.prog W 0 (fun _ => true) true fuel 22 [v] = some x) (hw : ∀ n ∈ x.1.weights Try.prog 22, n ≤ reachBytes) :
    ∃ a c, ∃ xs : List OpD, v = .slice a xs.length c ∧ RdO W a xs ∧ xs.length ≤ c ∧ (a = none → c = 0) ∧ xs.length ≤ 4398046511103 := by
  rcases Deep.open_slice Try.underlying22 h with ⟨hcs, _⟩ | ⟨q, len, cap, m, n, D, Pl, hcs, _, hl, hm, hmm, hd, hcell⟩
  · simp at hcs
    exact ⟨none, 0, [], hcs, fun j hj => by simp at hj, Nat.le_refl _, fun _ => rfl, by simp⟩
  · simp at hcs
    simp only [if_true] at hmm
    subst hmm
    have hsz := hw ((len + (m - len)) * Try.prog.bytesOf 32) (by rw [hd]; simp [DataW.weights, Try.underlying22])
    rw [bytesEO] at hsz
    simp only [reachBytes] at hsz
    obtain ⟨b, o, s⟩ := q
    have hs0 : 0 < len → s = none := by
      intro h0
      obtain ⟨cs', h1, -⟩ := hcell 0 (by omega)
      rw [cellsEO] at h1
      obtain ⟨_, hlen, hcl⟩ := World.cells?_some h1
      have g0 := hcl 0 (by omega)
      match cs', hlen with
      | [v0, v1, v2], _ =>
        simp [Addr.add] at g0
        simpa using World.cell?_spot g0
    have each : ∀ j, j < len → ∃ y : OpD, s = none ∧ OpOk W y ∧ W.rangeAt b (o + j * 3) (opl y) := by
      intro j hj
      obtain ⟨cs', h1, h2⟩ := hcell j (by omega)
      rw [cellsEO] at h1
      obtain ⟨_, hlen, hcl⟩ := World.cells?_some h1
      obtain ⟨y, hok, hy⟩ := opened_op h2 hlen (fun n hn => hw n (by
        rw [hd]
        simp only [DataW.weights, Try.underlying22, List.mem_cons, List.mem_append]
        exact .inr (.inl (all_mem (List.mem_map.2 ⟨j, List.mem_range.2 hj, rfl⟩) n hn))))
      subst hy
      have hs : s = none := hs0 (by omega)
      subst hs
      refine ⟨y, rfl, hok, fun q u hu => ?_⟩
      have hq : q < 3 := by have := (List.getElem?_eq_some_iff.1 hu).1; simpa using this
      have g := hcl q (by simpa using hq)
      rw [Deep.add_add, Go.WideShapes.add_plain] at g
      rw [Nat.add_assoc, g]
      exact hu
    obtain ⟨l, hll, hlp⟩ := list_of len each
    subst hll
    refine ⟨_, _, l, hcs, fun j hj => ?_, hl, (fun h => by cases h), by omega⟩
    obtain ⟨hs, h0, h1⟩ := hlp j hj
    subst hs
    exact ⟨b, o, rfl, h0, h1⟩
theorem opened_cops {a : Option Addr} {len cap : Nat} {d : DataW H} {p : List MemPlace} (h : DataW.Trod enc Try.prog W 0 (fun _ => true) true 22 (.slice a len cap) d p) (hw : ∀ n ∈ d.weights Try.prog 22, n ≤ reachBytes) :
    ∃ xs : List OpD, len = xs.length ∧ RdO W a xs ∧ len ≤ 4398046511103 := by
  obtain ⟨fuel, hf⟩ := h
  obtain ⟨a', c', xs, hv, h1, h2, h3, h4⟩ := open_cops (fuel := fuel) (v := .slice a len cap) (x := (d, p)) hf hw
  obtain ⟨rfl, rfl, rfl⟩ := Value.slice.inj hv
  exact ⟨xs, rfl, h1, h4⟩
set_option maxRecDepth 20000 in
theorem opened_sc {v : Value} {d : DataW H} {p : List MemPlace} {r : Reach} {b0 : Nat} (hv : Value.okWide Try.prog W r b0 24 v)
    (h : DataW.Trod enc Try.prog W 0 (fun _ => true) true 24 v d p) (hw : ∀ n ∈ d.weights Try.prog 24, n ≤ reachBytes) :
    ∃ (z : Int) (a : Option Addr) (c : Nat) (xs : List OpD), v = .agg #[.int .i64 z, .slice a xs.length c] ∧ RdO W a xs ∧ xs.length ≤ c ∧ (a = none → c = 0) ∧ xs.length ≤ 4398046511103 := by
  obtain ⟨cs, rfl, hsz⟩ := okWide_struct Try.underlying24 hv
  rw [cellsSC] at hsz
  obtain ⟨c0, c1, rfl⟩ := arr2 hsz
  obtain ⟨fuel, hf⟩ := h
  obtain ⟨y0, y1, n, hx, _, g0, g1⟩ := trod_struct2 Try.underlying24 hf
  simp [cellsEI, cellsSL, Value.cells] at g0 g1
  obtain ⟨z, rfl, -⟩ := open_i g0
  cases hx
  obtain ⟨a, c, xs, rfl, h1, h2, h3, h4⟩ := open_cops g1 (fun n hn => hw n (by
    simp only [DataW.weights, Try.underlying24]
    exact DataW.weights_mem_each (j := 1) (t := 22) (d := y1.1) rfl rfl n hn))
  exact ⟨z, a, c, xs, rfl, h1, h2, h3, h4⟩
end
end Go.Proofs.Ytmjhbckedagjjab
