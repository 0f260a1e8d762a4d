import Derived.Test.YtpakkpahcpgnnaaGreatDoorWFCalls
import Derived.Test.YtpakkpahcpgnnaaGreatDoorOpen
import Derived.Deep.Slices
import Derived.Deep.Strs
import Derived.Lib.SmallJoins
import Derived.ChangeSame
set_option linter.unusedVariables false
set_option linter.unusedSimpArgs false
namespace Go.Proofs.YtpakkpahcpgnnaaGreatDoor
open Go.ChangeShapes Go.WideShapes Go.ChangeAt Go.RowKit
theorem cellsRg : Tryz.prog.cellsOf 108 = 2 := by kernel_rfl
theorem bytesRg : Tryz.prog.bytesOf 108 = 16 := by kernel_rfl
theorem cellsRI : Tryz.prog.cellsOf 3 = 1 := by kernel_rfl
theorem cellsRU : Tryz.prog.cellsOf 23 = 1 := by kernel_rfl
theorem cellsRS : Tryz.prog.cellsOf 22 = 1 := by kernel_rfl
theorem cellsRR : Tryz.prog.cellsOf 47 = 1 := by kernel_rfl
theorem cellsUn : Tryz.prog.cellsOf 49 = 9 := by kernel_rfl
theorem list_of {α : Type} {P : Nat → α → Prop} : ∀ (n : Nat), (∀ j, j < n → ∃ x, P j x) → ∃ l : List α, l.length = n ∧ ∀ j (hj : j < l.length), P j l[j]
 | 0, _ => ⟨[], rfl, fun j hj => by simp at hj⟩
 | n + 1, h => by
  obtain ⟨l, hl, hp⟩ := list_of n (fun j hj => h j (by omega)); obtain ⟨x, hx⟩ := h n (by omega); refine ⟨l ++ [x], by simp [hl], fun j hj => ?_⟩
  by_cases e : j < l.length
  · rw [List.getElem_append_left e]; exact hp j e
  · have : j = l.length := by simp at hj; omega
    subst this; simp; rw [hl]; exact hx
theorem u64_lt {n : Int} (h : (Lit.int .u64 n).wf = true) : ∃ m : Nat, n = m ∧ m < 18446744073709551616 := by
 have h2 : 0 ≤ n ∧ n ≤ 18446744073709551615 := by simpa [Lit.wf, IntKind.min, IntKind.max, IntKind.signed, IntKind.bits] using h
 exact ⟨n.toNat, by omega, by omega⟩
theorem cellsFk : Tryz.prog.cellsOf 33 = 2 := by kernel_rfl
theorem cellsCf : Tryz.prog.cellsOf 25 = 6 := by kernel_rfl
theorem cellsOf_ : Tryz.prog.cellsOf 69 = 15 := by kernel_rfl
theorem bytesOf_ : Tryz.prog.bytesOf 69 = 168 := by kernel_rfl
theorem array6 {α : Type} {cs : Array α} (h : cs.size = 6) : ∃ c0 c1 c2 c3 c4 c5, cs = #[c0, c1, c2, c3, c4, c5] := by
 obtain ⟨l⟩ := cs
 match l, h with
 | [c0, c1, c2, c3, c4, c5], _ => exact ⟨c0, c1, c2, c3, c4, c5, rfl⟩
theorem all_mem {H : Type} {P : Program} {e : TypeId} : ∀ {ds : List (DataW H)} {d : DataW H}, d ∈ ds → ∀ n ∈ d.weights P e, n ∈ DataW.weightsAll P e ds
 | [], d, h => by simp at h
 | d0 :: r, d, h => by
  intro n hn; simp only [DataW.weightsAll, List.mem_append]; rcases List.mem_cons.1 h with rfl | h
  · exact .inl hn
  · exact .inr (all_mem h n hn)
section
variable {H : Type} {enc : TypeId × Value → H} {W : World}
theorem open_i {fuel : Nat} {v : Value} {x : DataW H × List MemPlace} (h : DataW.trod enc Tryz.prog W 0 (fun _ => true) true fuel 3 [v] = some x) : ∃ m : Int, v = .int .i64 m ∧ -9223372036854775808 ≤ m ∧ m ≤ 9223372036854775807 := by
 obtain ⟨z, e, _, wm⟩ := DataW.trod_int Tryz.underlying3 h; have h2 : -9223372036854775808 ≤ z ∧ z ≤ 9223372036854775807 := by simpa [Lit.wf, IntKind.min, IntKind.max, IntKind.signed, IntKind.bits] using wm
 simp at e; exact ⟨z, e, h2⟩
theorem open_u {fuel : Nat} {v : Value} {x : DataW H × List MemPlace} (h : DataW.trod enc Tryz.prog W 0 (fun _ => true) true fuel 23 [v] = some x) : ∃ m : Nat, v = .int .u64 m ∧ m < 18446744073709551616 := by
 obtain ⟨z, e, _, wm⟩ := DataW.trod_int Tryz.underlying23 h; obtain ⟨m, rfl, hm⟩ := u64_lt wm; simp at e; exact ⟨m, e, hm⟩
theorem open_s {fuel : Nat} {v : Value} {x : DataW H × List MemPlace} (h : DataW.trod enc Tryz.prog W 0 (fun _ => true) true fuel 22 [v] = some x) (hw : ∀ n ∈ x.1.weights Tryz.prog 22, n ≤ reachBytes) :
 ∃ a c, ∃ xs : List UInt8, v = .slice a xs.length c ∧ Rd W a xs ∧ xs.length ≤ c ∧ (a = none → c = 0) ∧ c ≤ 140737488351232 := by
 obtain ⟨a2, l2, c2, rfl⟩ : ∃ a2 l2 c2, v = .slice a2 l2 c2 := by
  rcases Deep.open_slice Tryz.underlying22 h with ⟨hcs, _⟩ | ⟨x, l, c, m, n, D, Pl, hcs, _⟩
  · simp at hcs; exact ⟨_, _, _, hcs⟩
  · simp at hcs; exact ⟨_, _, _, hcs⟩
 obtain ⟨xs, rfl, hr, hlc, hn, hbk⟩ := opened_u8 (d := x.1) (p := x.2) ⟨fuel, h⟩; refine ⟨a2, c2, xs, rfl, hr, hlc, hn, ?_⟩; rcases hbk with h0 | ⟨el, sp, he, hc⟩
 · omega
 · have := hw ((el.length + sp.length) * Tryz.prog.bytesOf 5) (by rw [he]; simp [DataW.weights, Tryz.underlying22]); rw [bytes5] at this; simp only [reachBytes] at this; omega
set_option maxRecDepth 20000 in
theorem opened_rs {fuel : Nat} {v : Value} {x : DataW H × List MemPlace} (h : DataW.trod enc Tryz.prog W 0 (fun _ => true) true fuel 47 [v] = some x) (hw : ∀ n ∈ x.1.weights Tryz.prog 47, n ≤ reachBytes) :
 ∃ a c, ∃ xs : List Rg, v = .slice a xs.length c ∧ RdR W a xs ∧ xs.length ≤ c ∧ (a = none → c = 0) ∧ c ≤ 8796093021952 := by
 rcases Deep.open_slice Tryz.underlying47 h with ⟨hcs, _⟩ | ⟨q, len, cap, m, n, D, Pl, hcs, _, hl, hm, hmm, hd, hcell⟩
 · simp at hcs; exact ⟨none, 0, [], hcs, fun j hj => by simp at hj, Nat.le_refl _, fun _ => rfl, by decide⟩
 · simp at hcs; simp only [if_true] at hmm; subst hmm; have hsz := hw ((len + (m - len)) * Tryz.prog.bytesOf 108) (by rw [hd]; simp [DataW.weights, Tryz.underlying47]); rw [bytesRg] at hsz; simp only [reachBytes] at hsz; obtain ⟨b, o, s⟩ := q
   have hs0 : 0 < len → s = none := by
    intro h0; obtain ⟨cs', h1, -⟩ := hcell 0 (by omega); rw [cellsRg] at h1; obtain ⟨_, hlen, hcl⟩ := World.cells?_some h1; have g0 := hcl 0 (by omega)
    match cs', hlen with
    | [v0, v1], _ =>
     simp [Addr.add] at g0
     simpa using World.cell?_spot g0
   have each : ∀ j, j < len → ∃ y : Rg, s = none ∧ W.cell? ⟨b, o + j * 2, none⟩ = some (.int .i64 y.1) ∧ W.cell? ⟨b, o + j * 2 + 1, none⟩ = some (.int .i64 y.2) := by
    intro j hj; obtain ⟨cs', h1, h2⟩ := hcell j (by omega); rw [cellsRg] at h1; obtain ⟨_, hlen, hcl⟩ := World.cells?_some h1; obtain ⟨y0, y1, n', hxy, _, t0, t1⟩ := trod_struct2 Tryz.underlying108 h2
    match cs', hlen with
    | [v0, v1], _ =>
     simp only [cellsRI] at t0 t1; have g0 := hcl 0 (by omega); have g1 := hcl 1 (by omega); rw [Deep.add_add] at g0 g1; simp at t0 t1; obtain ⟨z0, rfl, hz0⟩ := open_i t0; obtain ⟨z1, rfl, hz1⟩ := open_i t1; have hs : s = none := hs0 (by omega); subst hs; rw [Go.WideShapes.add_plain] at g0 g1; exact ⟨(z0, z1), rfl, by simpa using g0, by simpa [Nat.add_assoc] using g1⟩
   obtain ⟨l, hll, hlp⟩ := list_of len each; subst hll; refine ⟨_, _, l, hcs, fun j hj => ?_, hl, (fun h => by cases h), ?_⟩
   · obtain ⟨hs, h1, h2⟩ := hlp j hj; subst hs; exact ⟨b, o, rfl, h1, h2⟩
   · omega
set_option maxRecDepth 20000 in
theorem open_unit {fuel : Nat} {cs : List Value} {x : DataW H × List MemPlace} (h : DataW.trod enc Tryz.prog W 0 (fun _ => true) true fuel 49 cs = some x) (hlc : cs.length = 9) (hw : ∀ n ∈ x.1.weights Tryz.prog 49, n ≤ reachBytes) :
 ∃ (u : Un) (da : Option Addr) (dc : Nat) (ga : Option Addr) (gc : Nat), cs = [.int .i64 u.kind, .int .u64 u.ep, .int .u64 u.se, .int .i64 u.path, .int .i64 u.idx, .int .i64 u.cnt, .slice da u.data.length dc, .int .i64 u.code, .slice ga u.got.length gc] ∧ Rd W da u.data ∧ u.data.length ≤ dc ∧ (da = none → dc = 0) ∧ dc ≤ 140737488351232 ∧ RdR W ga u.got ∧ u.got.length ≤ gc ∧ (ga = none → gc = 0) ∧ gc ≤ 8796093021952 ∧ (∃ n : Nat, u.ep = (n : Int) ∧ n < 18446744073709551616) ∧ ∃ n : Nat, u.se = (n : Int) ∧ n < 18446744073709551616 := by
 obtain ⟨xs, n, _, hx, _, hlen, hfl⟩ := DataW.trod_struct Tryz.underlying49 h
 match cs, hlc, xs, hlen with
 | [c0, c1, c2, c3, c4, c5, c6, c7, c8], _, [y0, y1, y2, y3, y4, y5, y6, y7, y8], _ =>
  have t0 := hfl 0 _ rfl; have t1 := hfl 1 _ rfl; have t2 := hfl 2 _ rfl; have t3 := hfl 3 _ rfl; have t4 := hfl 4 _ rfl; have t5 := hfl 5 _ rfl; have t6 := hfl 6 _ rfl; have t7 := hfl 7 _ rfl; have t8 := hfl 8 _ rfl; simp [cellsRI, cellsRU, cellsRS, cellsRR] at t0 t1 t2 t3 t4 t5 t6 t7 t8
  have hxd : x.1 = .agg [y0.1, y1.1, y2.1, y3.1, y4.1, y5.1, y6.1, y7.1, y8.1] := by
   have := congrArg Prod.fst hx
   simpa using this
  obtain ⟨k, rfl, -⟩ := open_i t0; obtain ⟨e, rfl, he⟩ := open_u t1; obtain ⟨s, rfl, hs⟩ := open_u t2; obtain ⟨p, rfl, -⟩ := open_i t3; obtain ⟨i, rfl, -⟩ := open_i t4; obtain ⟨c, rfl, -⟩ := open_i t5; obtain ⟨cd, rfl, -⟩ := open_i t7
  obtain ⟨da, dc, ds, rfl, hr, hlc, hn, hc⟩ := open_s t6 (fun n hn => hw n (by
    rw [hxd]; simp only [DataW.weights, Tryz.underlying49]
    exact DataW.weights_mem_each (j := 6) (t := 22) (d := y6.1) rfl rfl n hn))
  obtain ⟨ga, gc, l, rfl, hg, hgl, hgn, hgc⟩ := opened_rs t8 (fun n hn => hw n (by
    rw [hxd]; simp only [DataW.weights, Tryz.underlying49]
    exact DataW.weights_mem_each (j := 8) (t := 47) (d := y8.1) rfl rfl n hn))
  exact ⟨⟨k, (e : Nat), (s : Nat), p, i, c, ds, cd, l⟩, da, dc, ga, gc, rfl, hr, hlc, hn, hc, hg, hgl, hgn, hgc, ⟨e, rfl, he⟩, ⟨s, rfl, hs⟩⟩
set_option maxRecDepth 20000 in
theorem open_key {fuel : Nat} {cs : List Value} {x : DataW H × List MemPlace} (h : DataW.trod enc Tryz.prog W 0 (fun _ => true) true fuel 33 cs = some x) (hlc : cs.length = 2) : ∃ k : Fk, inF k ∧ cs = [.int .i64 k.1, .int .u64 (k.2 : Int)] := by
 obtain ⟨y0, y1, n', hxy, _, t0, t1⟩ := trod_struct2 Tryz.underlying33 h
 match cs, hlc with
 | [v0, v1], _ =>
  simp only [cellsRI, cellsRU] at t0 t1; simp at t0 t1; obtain ⟨z0, rfl, hz0⟩ := open_i t0; obtain ⟨z1, rfl, hz1⟩ := open_u t1; exact ⟨(z0, z1), ⟨hz0.1, by omega, hz1⟩, rfl⟩
set_option maxRecDepth 20000 in
theorem opened_of {fuel : Nat} {cs : List Value} {x : DataW H × List MemPlace} (h : DataW.trod enc Tryz.prog W 0 (fun _ => true) true fuel 69 cs = some x) (hlc : cs.length = 15) (hw : ∀ n ∈ x.1.weights Tryz.prog 69, n ≤ reachBytes) :
 ∃ y : Of, OfOk W y ∧ cs = y.c.toList := by
 obtain ⟨ys, n', _, hx, _, hlx, hfl⟩ := DataW.trod_struct Tryz.underlying69 h
 match cs, hlc, ys, hlx with
 | [v0, v1, v2, v3, v4, v5, v6, v7, v8, v9, v10, v11, v12, v13, v14], _, [y0, y1, y2, y3, y4, y5], _ =>
  have t0 := hfl 0 _ rfl; have t1 := hfl 1 _ rfl; have t2 := hfl 2 _ rfl; have t3 := hfl 3 _ rfl; have t4 := hfl 4 _ rfl; have t5 := hfl 5 _ rfl; simp [cellsRI, cellsRU, cellsRS, cellsFk, cellsUn] at t0 t1 t2 t3 t4 t5
  have hxd : x.1 = .agg [y0.1, y1.1, y2.1, y3.1, y4.1, y5.1] := by
   have := congrArg Prod.fst hx
   simpa using this
  obtain ⟨z0, rfl, -⟩ := open_i t0; obtain ⟨k, hk, ek⟩ := open_key t1 (by simp); simp only [List.cons.injEq, and_true] at ek; obtain ⟨rfl, rfl⟩ := ek
  obtain ⟨ba, bc, bs, rfl, br, bl, bz, bb⟩ := open_s t2 (fun n hn => hw n (by
    rw [hxd]; simp only [DataW.weights, Tryz.underlying69]
    exact DataW.weights_mem_each (j := 2) (t := 22) (d := y2.1) rfl rfl n hn))
  obtain ⟨n, rfl, hn⟩ := open_u t3; obtain ⟨nw, rfl, -⟩ := open_u t4
  obtain ⟨u, da, dc, ga, gc, eu, u1, u2, u3, u4, u5, u6, u7, u8, u9, u10⟩ := open_unit t5 (by simp) (fun n hn => hw n (by
    rw [hxd]; simp only [DataW.weights, Tryz.underlying69]
    exact DataW.weights_mem_each (j := 5) (t := 49) (d := y5.1) rfl rfl n hn))
  simp only [List.cons.injEq, and_true] at eu; obtain ⟨rfl, rfl, rfl, rfl, rfl, rfl, rfl, rfl, rfl⟩ := eu; exact ⟨⟨z0, k, bs, ba, bs.length, bc, n, nw, u, da, u.data.length, dc, ga, u.got.length, gc⟩, ⟨hk, hn, rfl, br, bl, bz, bb, rfl, rfl, u1, u2, u3, u4, u5, u6, u7, u8, u9, u10⟩, rfl⟩
set_option maxRecDepth 20000 in
theorem open_ofs {fuel : Nat} {v : Value} {x : DataW H × List MemPlace} (h : DataW.trod enc Tryz.prog W 0 (fun _ => true) true fuel 63 [v] = some x) (hw : ∀ n ∈ x.1.weights Tryz.prog 63, n ≤ reachBytes) :
 ∃ a c, ∃ xs : List Of, v = .slice a xs.length c ∧ RdOf W a xs ∧ xs.length ≤ c ∧ (a = none → c = 0) ∧ xs.length ≤ 4398046511103 := by
 rcases Deep.open_slice Tryz.underlying63 h with ⟨hcs, _⟩ | ⟨q, len, cap, m, n, D, Pl, hcs, _, hl, hm, hmm, hd, hcell⟩
 · simp at hcs; exact ⟨none, 0, [], hcs, fun j hj => by simp at hj, Nat.le_refl _, fun _ => rfl, by simp⟩
 · simp at hcs; simp only [if_true] at hmm; subst hmm; have hsz := hw ((len + (m - len)) * Tryz.prog.bytesOf 69) (by rw [hd]; simp [DataW.weights, Tryz.underlying63]); rw [bytesOf_] at hsz; simp only [reachBytes] at hsz; obtain ⟨b, o, s⟩ := q
   have hs0 : 0 < len → s = none := by
    intro h0; obtain ⟨cs', h1, -⟩ := hcell 0 (by omega); rw [cellsOf_] at h1; obtain ⟨_, hlen, hcl⟩ := World.cells?_some h1; have g0 := hcl 0 (by omega)
    match cs', hlen with
    | v0 :: r0, _ =>
     simp [Addr.add] at g0
     simpa using World.cell?_spot g0
   have each : ∀ j, j < len → ∃ y : Of, s = none ∧ OfOk W y ∧ W.rangeAt b (o + j * 15) (y.c.toList) := by
    intro j hj; obtain ⟨cs', h1, h2⟩ := hcell j (by omega); rw [cellsOf_] at h1; obtain ⟨_, hlen, hcl⟩ := World.cells?_some h1
    obtain ⟨y, hok, hy⟩ := opened_of h2 hlen (fun n hn => hw n (by
      rw [hd]; simp only [DataW.weights, Tryz.underlying63, List.mem_cons, List.mem_append]
      exact .inr (.inl (all_mem (List.mem_map.2 ⟨j, List.mem_range.2 hj, rfl⟩) n hn))))
    subst hy; have hs : s = none := hs0 (by omega); subst hs; refine ⟨y, rfl, hok, fun q u hu => ?_⟩; have hq : q < 15 := by have := (List.getElem?_eq_some_iff.1 hu).1; simpa using this
    have g := hcl q (by simpa using hq); rw [Deep.add_add, Go.WideShapes.add_plain] at g; rw [Nat.add_assoc, g]; exact hu
   obtain ⟨l, hll, hlp⟩ := list_of len each; subst hll; refine ⟨_, _, l, hcs, fun j hj => ?_, hl, (fun h => by cases h), by omega⟩; obtain ⟨hs, h0, h1⟩ := hlp j hj; subst hs; exact ⟨b, o, rfl, h0, h1⟩
theorem opened_oes {a : Option Addr} {len cap : Nat} {d : DataW H} {p : List MemPlace} (h : DataW.Trod enc Tryz.prog W 0 (fun _ => true) true 63 (.slice a len cap) d p) (hw : ∀ n ∈ d.weights Tryz.prog 63, n ≤ reachBytes) :
 ∃ xs : List Of, len = xs.length ∧ RdOf W a xs ∧ len ≤ 4398046511103 := by
 obtain ⟨fuel, hf⟩ := h; obtain ⟨a', c', xs, hv, h1, h2, h3, h4⟩ := open_ofs (fuel := fuel) (v := .slice a len cap) (x := (d, p)) hf hw; obtain ⟨rfl, rfl, rfl⟩ := Value.slice.inj hv; exact ⟨xs, rfl, h1, h4⟩
set_option maxRecDepth 20000 in
theorem opened_cfg {v : Value} {d : DataW H} {p : List MemPlace} {r : Reach} {b0 : Nat} (hv : Value.okWide Tryz.prog W r b0 25 v)
 (h : DataW.Trod enc Tryz.prog W 0 (fun _ => true) true 25 v d p) :
 ∃ (m : Int) (a r : Nat) (t vw i : Int), v = cfgv m a r t vw i := by
 obtain ⟨cs, rfl, hsz⟩ := okWide_struct Tryz.underlying25 hv; rw [cellsCf] at hsz; obtain ⟨c0, c1, c2, c3, c4, c5, rfl⟩ := array6 hsz; obtain ⟨fuel, hf⟩ := h; obtain ⟨xs, n, _, hx, _, hlen, hfl⟩ := DataW.trod_struct Tryz.underlying25 hf
 match xs, hlen with
 | [y0, y1, y2, y3, y4, y5], _ =>
  have t0 := hfl 0 _ rfl; have t1 := hfl 1 _ rfl; have t2 := hfl 2 _ rfl; have t3 := hfl 3 _ rfl; have t4 := hfl 4 _ rfl; have t5 := hfl 5 _ rfl; simp [cellsRI, cellsRU, Value.cells] at t0 t1 t2 t3 t4 t5; obtain ⟨m, rfl, -⟩ := open_i t0; obtain ⟨a, rfl, -⟩ := open_u t1; obtain ⟨r, rfl, -⟩ := open_u t2; obtain ⟨t, rfl, -⟩ := open_i t3; obtain ⟨vw, rfl, -⟩ := open_i t4; obtain ⟨i, rfl, -⟩ := open_i t5; exact ⟨m, a, r, t, vw, i, rfl⟩
end
end Go.Proofs.YtpakkpahcpgnnaaGreatDoor
