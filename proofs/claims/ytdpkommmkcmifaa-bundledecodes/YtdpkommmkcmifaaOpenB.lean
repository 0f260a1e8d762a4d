import Derived.Test.YtdpkommmkcmifaaNumb
import Derived.Test.YtdpkommmkcmifaaOpen
import Derived.Deep.Slices
import Derived.Deep.Strs
import Derived.Lib.SmallJoins
import Derived.OpenShut
namespace Go.Proofs.Ytdpkommmkcmifaa
set_option linter.unusedVariables false
set_option linter.unusedSimpArgs false
open Go.ChangeShapes Go.WideShapes Go.ChangeAt Go.RowKit
theorem list_of {α : Type} {P : Nat → α → Prop} : ∀ (n : Nat), (∀ j, j < n → ∃ x, P j x) → ∃ l : List α, l.length = n ∧ ∀ j (hj : j < l.length), P j l[j]
  | 0, _ => ⟨[], rfl, fun j hj => by simp at hj⟩
  | n + 1, h => by
    obtain ⟨l, hl, hp⟩ := list_of n (fun j hj => h j (by omega))
    obtain ⟨x, hx⟩ := h n (by omega)
    refine ⟨l ++ [x], by simp [hl], fun j hj => ?_⟩
    by_cases e : j < l.length
    · rw [List.getElem_append_left e]; exact hp j e
    · have : j = l.length := by simp at hj; omega
      subst this
      simp
      rw [hl]
      exact hx
theorem all_mem {H : Type} {P : Program} {e : TypeId} : ∀ {ds : List (DataW H)} {d : DataW H}, d ∈ ds → ∀ n ∈ d.weights P e, n ∈ DataW.weightsAll P e ds
  | [], d, h => by simp at h
  | d0 :: r, d, h => by
    intro n hn
    simp only [DataW.weightsAll, List.mem_append]
    rcases List.mem_cons.1 h with rfl | h
    · exact .inl hn
    · exact .inr (all_mem h n hn)
theorem cells29 : Try.prog.cellsOf 29 = 12 := by kernel_rfl
theorem cells40 : Try.prog.cellsOf 40 = 4 := by kernel_rfl
theorem cellsU : Try.prog.cellsOf 22 = 1 := by kernel_rfl
theorem cellsS8 : Try.prog.cellsOf 27 = 1 := by kernel_rfl
theorem cellsSB : Try.prog.cellsOf 26 = 1 := by kernel_rfl
theorem cellsE : Try.prog.cellsOf 23 = 6 := by kernel_rfl
theorem cellsSt : Try.prog.cellsOf 25 = 2 := by kernel_rfl
theorem bytes40 : Try.prog.bytesOf 40 = 48 := by kernel_rfl
theorem u64_lt {n : Int} (h : (Lit.int .u64 n).wf = true) : ∃ m : Nat, n = m ∧ m < 18446744073709551616 := by
  have h2 : 0 ≤ n ∧ n ≤ 18446744073709551615 := by simpa [Lit.wf, IntKind.min, IntKind.max, IntKind.signed, IntKind.bits] using h
  exact ⟨n.toNat, by omega, by omega⟩
theorem array12 {α : Type} {cs : Array α} (h : cs.size = 12) : ∃ c0 c1 c2 c3 c4 c5 c6 c7 c8 c9 c10 c11, cs = #[c0, c1, c2, c3, c4, c5, c6, c7, c8, c9, c10, c11] := by
  obtain ⟨l⟩ := cs
  match l, h with
  | [c0, c1, c2, c3, c4, c5, c6, c7, c8, c9, c10, c11], _ => exact ⟨c0, c1, c2, c3, c4, c5, c6, c7, c8, c9, c10, c11, rfl⟩
section
variable {H : Type} {enc : TypeId × Value → H} {W : World}
theorem open_u {fuel : Nat} {v : Value} {x : DataW H × List MemPlace} (h : DataW.trod enc Try.prog W 0 (fun _ => true) true fuel 22 [v] = some x) : ∃ m : Nat, v = .int .u64 m ∧ m < 18446744073709551616 := by
  obtain ⟨z, e, _, wm⟩ := DataW.trod_int Try.underlying22 h
  obtain ⟨m, rfl, hm⟩ := u64_lt wm
  simp at e
  exact ⟨m, e, hm⟩
theorem open_s {fuel : Nat} {v : Value} {x : DataW H × List MemPlace} (h : DataW.trod enc Try.prog W 0 (fun _ => true) true fuel 27 [v] = some x) (hw : ∀ n ∈ x.1.weights Try.prog 27, n ≤ reachBytes) :
    ∃ a c, ∃ xs : List UInt8, v = .slice a xs.length c ∧ Rd W a xs ∧ xs.length ≤ c ∧ (a = none → c = 0) ∧ c ≤ 140737488351232 := by
  obtain ⟨a2, l2, c2, rfl⟩ : ∃ a2 l2 c2, v = .slice a2 l2 c2 := by
    rcases Deep.open_slice Try.underlying27 h with ⟨hcs, _⟩ | ⟨x, l, c, m, n, D, Pl, hcs, _⟩
    · simp at hcs; exact ⟨_, _, _, hcs⟩
    · simp at hcs; exact ⟨_, _, _, hcs⟩
  obtain ⟨xs, rfl, hr, hlc, hn, hbk⟩ := opened_u8 (d := x.1) (p := x.2) ⟨fuel, h⟩
  refine ⟨a2, c2, xs, rfl, hr, hlc, hn, ?_⟩
  rcases hbk with h0 | ⟨el, sp, he, hc⟩
  · omega
  · have := hw ((el.length + sp.length) * Try.prog.bytesOf 5) (by rw [he]; simp [DataW.weights, Try.underlying27])
    rw [bytes5] at this
    simp only [reachBytes] at this
    omega
set_option maxRecDepth 20000 in
theorem opened_blk {fuel : Nat} {cs : List Value} {x : DataW H × List MemPlace} (h : DataW.trod enc Try.prog W 0 (fun _ => true) true fuel 40 cs = some x) (hw : ∀ n ∈ x.1.weights Try.prog 40, n ≤ reachBytes) :
    ∃ (y : Blk) (a : Option Addr) (c : Nat), y.ok ∧ cs = [.int .u64 y.t, .int .u64 y.n, .int .u64 y.f, .slice a y.d.length c] ∧ Rd W a y.d ∧ y.d.length ≤ c ∧ (a = none → c = 0) := by
  obtain ⟨y0, y1, y2, y3, n, hx, hl, t0, t1, t2, t3⟩ := Go.Joins.trod_struct4 Try.underlying40 h
  rw [cells40] at hl
  match cs, hl with
  | [v0, v1, v2, v3], _ =>
    simp only [cellsU, cellsS8] at t0 t1 t2 t3
    simp at t0 t1 t2 t3
    obtain ⟨m0, rfl, h0⟩ := open_u t0
    obtain ⟨m1, rfl, h1⟩ := open_u t1
    obtain ⟨m2, rfl, h2⟩ := open_u t2
    obtain ⟨a, c, xs, rfl, hr, hlc, hn, hc⟩ := open_s t3 (fun n hn => hw n (by
      rw [hx]
      simp only [DataW.weights, Try.underlying40]
      exact DataW.weights_mem_each (j := 3) (t := 27) (d := y3.1) rfl rfl n hn))
    exact ⟨⟨m0, m1, m2, xs⟩, a, c, ⟨h0, h1, h2, by simp only; omega⟩, rfl, hr, hlc, hn⟩
set_option maxRecDepth 20000 in
theorem opened_blks {fuel : Nat} {v : Value} {x : DataW H × List MemPlace} (h : DataW.trod enc Try.prog W 0 (fun _ => true) true fuel 26 [v] = some x) (hw : ∀ n ∈ x.1.weights Try.prog 26, n ≤ reachBytes) :
    ∃ a c, ∃ l : List Blk, v = .slice a l.length c ∧ RdBlks W a l ∧ l.length ≤ c ∧ (a = none → c = 0) ∧ l.length ≤ 2932031007317 ∧ ∀ y ∈ l, y.ok := by
  rcases Deep.open_slice Try.underlying26 h with ⟨hcs, _⟩ | ⟨q, len, cap, m, n, D, Pl, hcs, _, hl, hm, hmm, hd, hcell⟩
  · simp at hcs
    exact ⟨none, 0, [], hcs, fun h => absurd h (Nat.lt_irrefl 0), Nat.le_refl _, fun _ => rfl, by simp, by simp⟩
  · simp at hcs
    simp only [if_true] at hmm
    subst hmm
    have hsz := hw ((len + (m - len)) * Try.prog.bytesOf 40) (by rw [hd]; simp [DataW.weights, Try.underlying26])
    rw [bytes40] at hsz
    simp only [reachBytes] at hsz
    obtain ⟨b, o, s⟩ := q
    have hs0 : 0 < len → s = none := by
      intro h0
      obtain ⟨cs', h1, -⟩ := hcell 0 (by omega)
      rw [cells40] at h1
      obtain ⟨_, hlen, hcl⟩ := World.cells?_some h1
      have g0 := hcl 0 (by omega)
      match cs', hlen with
      | [v0, v1, v2, v3], _ =>
        simp [Addr.add] at g0
        simpa using World.cell?_spot g0
    have each : ∀ j, j < len → ∃ y : Blk, (s = none ∧ BlkAt W b (o + j * 4) y) ∧ y.ok := by
      intro j hj
      obtain ⟨cs', h1, h2⟩ := hcell j (by omega)
      rw [cells40] at h1
      obtain ⟨_, hlen, hcl⟩ := World.cells?_some h1
      obtain ⟨y, a, c, hok, hy, hr, hlc, hn⟩ := opened_blk h2 (fun n hn => hw n (by
        rw [hd]
        simp only [DataW.weights, Try.underlying26, List.mem_cons, List.mem_append]
        exact .inr (.inl (all_mem (List.mem_map.2 ⟨j, List.mem_range.2 hj, rfl⟩) n hn))))
      subst hy
      have hs : s = none := hs0 (by omega)
      subst hs
      have g0 := hcl 0 (by omega)
      have g1 := hcl 1 (by omega)
      have g2 := hcl 2 (by omega)
      have g3 := hcl 3 (by omega)
      rw [Deep.add_add, Go.WideShapes.add_plain] at g0 g1 g2 g3
      refine ⟨y, ⟨rfl, a, c, ?_, ?_, ?_, ?_, hr, hlc, hn⟩, hok⟩
      · rw [← Nat.add_zero (o + j * 4), Nat.add_assoc, g0]; rfl
      · rw [Nat.add_assoc, g1]; rfl
      · rw [Nat.add_assoc, g2]; rfl
      · rw [Nat.add_assoc, g3]; rfl
    obtain ⟨l, hll, hlp⟩ := list_of len each
    subst hll
    refine ⟨_, _, l, hcs, fun hp => ?_, hl, (fun h => by cases h), by omega, ?_⟩
    · have hs := (hlp 0 hp).1.1
      subst hs
      exact ⟨b, o, rfl, fun j hj => (hlp j hj).1.2⟩
    · intro y hy
      obtain ⟨j, hj, rfl⟩ := List.getElem_of_mem hy
      exact (hlp j hj).2
set_option maxRecDepth 20000 in
theorem opened_bun {v : Value} {d : DataW H} {p : List MemPlace} {r : Reach} {b0 : Nat} (hv : Value.okWide Try.prog W r b0 29 v)
    (h : DataW.Trod enc Try.prog W 0 (fun _ => true) true 29 v d p) (hw : ∀ n ∈ d.weights Try.prog 29, n ≤ reachBytes) :
    ∃ (b : Bun) (ba : Option Addr) (bc : Nat) (pa : Option Addr) (pc : Nat), v = bunV b ba bc pa pc ∧ BunR W b ba bc pa pc := by
  obtain ⟨cs, rfl, hsz⟩ := okWide_struct Try.underlying29 hv
  rw [cells29] at hsz
  obtain ⟨c0, c1, c2, c3, c4, c5, c6, c7, c8, c9, c10, c11, rfl⟩ := array12 hsz
  obtain ⟨fuel, hf⟩ := h
  obtain ⟨xs, n, _, hx, _, hlen, hfl⟩ := DataW.trod_struct Try.underlying29 hf
  match xs, hlen with
  | [y0, y1, y2, y3, y4, y5], _ =>
    have t0 := hfl 0 _ rfl
    have t1 := hfl 1 _ rfl
    have t2 := hfl 2 _ rfl
    have t3 := hfl 3 _ rfl
    have t4 := hfl 4 _ rfl
    have t5 := hfl 5 _ rfl
    simp [cellsU, cellsS8, cellsSB, cellsE, cellsSt, Value.cells] at t0 t1 t2 t3 t4 t5
    have hxd : d = .agg [y0.1, y1.1, y2.1, y3.1, y4.1, y5.1] := by
      have := congrArg Prod.fst hx
      simpa using this
    obtain ⟨fl, rfl, hfl0⟩ := open_u t0
    obtain ⟨lf, rfl, hlf⟩ := open_u t3
    obtain ⟨es, m, _, _, _, helen, hes⟩ := DataW.trod_array Try.underlying23 t1
    match es, helen with
    | [s0, s1, s2, s3, s4, s5], _ =>
      have k0 := hes 0 (by omega)
      have k1 := hes 1 (by omega)
      have k2 := hes 2 (by omega)
      have k3 := hes 3 (by omega)
      have k4 := hes 4 (by omega)
      have k5 := hes 5 (by omega)
      simp [cellsU] at k0 k1 k2 k3 k4 k5
      obtain ⟨e0, rfl, he0⟩ := open_u k0
      obtain ⟨e1, rfl, he1⟩ := open_u k1
      obtain ⟨e2, rfl, he2⟩ := open_u k2
      obtain ⟨e3, rfl, he3⟩ := open_u k3
      obtain ⟨e4, rfl, he4⟩ := open_u k4
      obtain ⟨e5, rfl, he5⟩ := open_u k5
      obtain ⟨z0, z1, _, _, _, g0, g1⟩ := trod_struct2 Try.underlying25 t2
      simp [cellsU] at g0 g1
      obtain ⟨tm, rfl, htm⟩ := open_u g0
      obtain ⟨sq, rfl, hsq⟩ := open_u g1
      obtain ⟨ba, bc, l, rfl, hrb, hlb, hnb, hbn, hok⟩ := opened_blks t4 (fun n hn => hw n (by
        rw [hxd]
        simp only [DataW.weights, Try.underlying29]
        exact DataW.weights_mem_each (j := 4) (t := 26) (d := y4.1) rfl rfl n hn))
      obtain ⟨pa, pc, ys, rfl, hrp, hlp, hnp, hpn⟩ := open_s t5 (fun n hn => hw n (by
        rw [hxd]
        simp only [DataW.weights, Try.underlying29]
        exact DataW.weights_mem_each (j := 5) (t := 27) (d := y5.1) rfl rfl n hn))
      exact ⟨⟨fl, e0, e1, e2, e3, e4, e5, tm, sq, lf, l, ys⟩, ba, bc, pa, pc, rfl, hrb, hlb, hnb, hrp, hlp, hnp, hfl0, he0, he1, he2, he3, he4, he5, htm, hsq, hlf, hok, hbn, by simp only; omega⟩
end
end Go.Proofs.Ytdpkommmkcmifaa
