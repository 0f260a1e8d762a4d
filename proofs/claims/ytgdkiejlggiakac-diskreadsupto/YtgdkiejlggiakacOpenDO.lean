import Derived.Test.YtgdkiejlggiakacOpenSt
import Derived.Test.YtgdkiejlggiakacOPlay
namespace Go.Proofs.Ytgdkiejlggiakac
set_option linter.unusedVariables false
set_option linter.unusedSimpArgs false
open Go.ChangeShapes Go.WideShapes Go.ChangeAt Go.RowKit
theorem cellsOp : Try.prog.cellsOf 77 = 6 := by kernel_rfl
theorem cellsDSt : Try.prog.cellsOf 48 = 2 := by kernel_rfl
theorem cellsB8 : Try.prog.cellsOf 40 = 1 := by kernel_rfl
theorem cellsU8 : Try.prog.cellsOf 5 = 1 := by kernel_rfl
theorem array2 {α : Type} {cs : Array α} (h : cs.size = 2) : ∃ c0 c1, cs = #[c0, c1] := by
  obtain ⟨l⟩ := cs
  match l, h with
  | [c0, c1], _ => exact ⟨c0, c1, rfl⟩
section
variable {H : Type} {enc : TypeId × Value → H} {W : World}
theorem opened_by {fuel : Nat} {v : Value} {x : DataW H × List MemPlace} (h : DataW.trod enc Try.prog W 0 (fun _ => true) true fuel 40 [v] = some x) :
    ∃ a c, ∃ xs : List UInt8, v = .slice a xs.length c ∧ Rd W a xs ∧ xs.length ≤ c ∧ (a = none → c = 0) ∧ c + 1 ≤ Rows.uptoBulk x.1 := by
  obtain ⟨a2, l2, c2, rfl⟩ : ∃ a2 l2 c2, v = .slice a2 l2 c2 := by
    rcases Deep.open_slice Try.underlying40 h with ⟨hcs, _⟩ | ⟨x, l, c, m, n, D, Pl, hcs, _⟩
    · simp at hcs; exact ⟨_, _, _, hcs⟩
    · simp at hcs; exact ⟨_, _, _, hcs⟩
  obtain ⟨xs, rfl, hr, hlc, hn, hbk⟩ := opened_u8 (d := x.1) (p := x.2) ⟨fuel, h⟩
  refine ⟨a2, c2, xs, rfl, hr, hlc, hn, ?_⟩
  rcases hbk with h0 | ⟨el, sp, he, hc⟩
  · have := bulk_pos x.1; omega
  · rw [he]; have := bulk_slice el sp; omega
theorem open_b {fuel : Nat} {v : Value} {x : DataW H × List MemPlace} (h : DataW.trod enc Try.prog W 0 (fun _ => true) true fuel 5 [v] = some x) : ∃ m : UInt8, v = .int .u8 (m.toNat : Int) := by
  obtain ⟨z, e, _, wm⟩ := DataW.trod_int Try.underlying5 h
  obtain ⟨m, rfl⟩ := u8_of wm
  simp at e
  exact ⟨m, e⟩
set_option maxRecDepth 20000 in
theorem opened_start {v : Value} {d : DataW H} {p : List MemPlace} {r : Reach} {b0 : Nat} (hv : Value.okWide Try.prog W r b0 48 v)
    (h : DataW.Trod enc Try.prog W 0 (fun _ => true) true 48 v d p) :
    ∃ (a : Option Addr) (c : Nat) (xs : List UInt8) (n : Int), v = .agg #[.slice a xs.length c, .int .i64 n] ∧ Rd W a xs ∧ xs.length ≤ c ∧ (a = none → c = 0) ∧ c + 1 ≤ Rows.uptoBulk d := by
  obtain ⟨cs, rfl, hsz⟩ := okWide_struct Try.underlying48 hv
  rw [cellsDSt] at hsz
  obtain ⟨c0, c1, rfl⟩ := array2 hsz
  obtain ⟨fuel, hf⟩ := h
  obtain ⟨xs, n, _, hx, _, hlen, hfl⟩ := DataW.trod_struct Try.underlying48 hf
  match xs, hlen with
  | [y0, y1], _ =>
    have t0 := hfl 0 _ rfl
    have t1 := hfl 1 _ rfl
    simp [cellsB8, cellsSI, Value.cells] at t0 t1
    have hxd : d = .agg [y0.1, y1.1] := by
      have := congrArg Prod.fst hx
      simpa using this
    obtain ⟨a, c, ys, rfl, h1, h2, h3, h4⟩ := opened_by t0
    obtain ⟨m, rfl, -⟩ := open_i t1
    refine ⟨a, c, ys, m, rfl, h1, h2, h3, ?_⟩
    rw [hxd]
    simp only [Rows.uptoBulk, Rows.uptoBulkAll]
    omega
set_option maxRecDepth 20000 in
theorem opened_dops {fuel : Nat} {v : Value} {x : DataW H × List MemPlace} (h : DataW.trod enc Try.prog W 0 (fun _ => true) true fuel 49 [v] = some x) (hbk : Rows.uptoBulk x.1 ≤ 1048576) :
    ∃ a c, ∃ xs : List Dop, v = .slice a xs.length c ∧ RdOps W a xs ∧ xs.length ≤ c ∧ (a = none → c = 0) ∧ c + 1 ≤ Rows.uptoBulk x.1 := by
  rcases Deep.open_slice Try.underlying49 h with ⟨hcs, _⟩ | ⟨q, len, cap, m, n, D, Pl, hcs, _, hl, hm, hmm, hd, hcell⟩
  · simp at hcs
    exact ⟨none, 0, [], hcs, fun j hj => by simp at hj, Nat.le_refl _, fun _ => rfl, bulk_pos _⟩
  · simp at hcs
    simp only [if_true] at hmm
    subst hmm
    obtain ⟨b, o, s⟩ := q
    have hs0 : 0 < len → s = none := by
      intro h0
      obtain ⟨cs', h1, -⟩ := hcell 0 (by omega)
      rw [cellsOp] at h1
      obtain ⟨_, hlen, hcl⟩ := World.cells?_some h1
      have g0 := hcl 0 (by omega)
      match cs', hlen with
      | [v0, v1, v2, v3, v4, v5], _ =>
        simp [Addr.add] at g0
        simpa using World.cell?_spot g0
    have hDb : ∀ j, j < len → Rows.uptoBulk (D j) ≤ 1048576 := fun j hj => by
      rw [hd] at hbk
      simp only [Rows.uptoBulk] at hbk
      have h9 : Rows.uptoBulk (D j) ≤ Rows.uptoBulkAll ((List.range len).map D) := bulk_mem_le (List.mem_map.2 ⟨j, List.mem_range.2 hj, rfl⟩)
      omega
    have each : ∀ j, j < len → ∃ i : Dop, s = none ∧ ∃ ra rc ca cc, W.rangeAt b (o + j * 6) [.int .i64 i.kind, .int .i64 i.i, .int .u8 (i.b.toNat : Int), .int .i64 i.size, .slice ra i.raw.length rc, .slice ca i.cs.length cc] ∧ OpAt W i ra rc ca cc := by
      intro j hj
      obtain ⟨cs', h1, h2⟩ := hcell j (by omega)
      rw [cellsOp] at h1
      obtain ⟨_, hlen, hcl⟩ := World.cells?_some h1
      obtain ⟨xs, n', _, hx, _, hlx, hfl⟩ := DataW.trod_struct Try.underlying77 h2
      match cs', hlen, xs, hlx with
      | [v0, v1, v2, v3, v4, v5], _, [y0, y1, y2, y3, y4, y5], _ =>
        have t0 := hfl 0 _ rfl
        have t1 := hfl 1 _ rfl
        have t2 := hfl 2 _ rfl
        have t3 := hfl 3 _ rfl
        have t4 := hfl 4 _ rfl
        have t5 := hfl 5 _ rfl
        simp [cellsB8, cellsSI, cellsSS, cellsU8] at t0 t1 t2 t3 t4 t5
        have hxd : D j = .agg [y0.1, y1.1, y2.1, y3.1, y4.1, y5.1] := by
          have := congrArg Prod.fst hx
          simpa using this
        have hb9 := hDb j hj
        rw [hxd] at hb9
        simp only [Rows.uptoBulk, Rows.uptoBulkAll] at hb9
        have g0 := hcl 0 (by omega)
        have g1 := hcl 1 (by omega)
        have g2 := hcl 2 (by omega)
        have g3 := hcl 3 (by omega)
        have g4 := hcl 4 (by omega)
        have g5 := hcl 5 (by omega)
        rw [Deep.add_add] at g0 g1 g2 g3 g4 g5
        obtain ⟨z0, rfl, -⟩ := open_i t0
        obtain ⟨z1, rfl, hz1⟩ := open_i t1
        obtain ⟨z2, rfl⟩ := open_b t2
        obtain ⟨z3, rfl, -⟩ := open_i t3
        obtain ⟨ra, rc, raw, rfl, r1, r2, r3, r4⟩ := opened_by t4
        obtain ⟨ca, cc, cs, rfl, c1, -, c2, c3, c4⟩ := opened_is t5
        have hs : s = none := hs0 (by omega)
        subst hs
        rw [Go.WideShapes.add_plain] at g0 g1 g2 g3 g4 g5
        refine ⟨⟨z0, z1, z2, z3, raw, cs⟩, rfl, ra, rc, ca, cc, ?_, ⟨r1, r3, by simp only; omega, c1, c3, by simp only; omega, hz1.2⟩⟩
        intro k v hk
        match k with
        | 0 => simp at hk; subst hk; simpa using g0
        | 1 => simp at hk; subst hk; simpa [Nat.add_assoc] using g1
        | 2 => simp at hk; subst hk; simpa [Nat.add_assoc] using g2
        | 3 => simp at hk; subst hk; simpa [Nat.add_assoc] using g3
        | 4 => simp at hk; subst hk; simpa [Nat.add_assoc] using g4
        | 5 => simp at hk; subst hk; simpa [Nat.add_assoc] using g5
        | k + 6 => simp at hk
    obtain ⟨l, hll, hlp⟩ := list_of len each
    subst hll
    refine ⟨_, _, l, hcs, fun j hj => ?_, hl, (fun h => by cases h), ?_⟩
    · obtain ⟨hs, ra, rc, ca, cc, h1, h2⟩ := hlp j hj
      subst hs
      exact ⟨b, o, ra, rc, ca, cc, rfl, h1, h2⟩
    · rw [hd]
      refine Nat.le_trans ?_ (bulk_slice _ _)
      simp
      omega
end
end Go.Proofs.Ytgdkiejlggiakac
