import Derived.Test.YtdpkommmkcmifaaOpenB
import Derived.Test.YtdpkommmkcmifaaKp
namespace Go.Proofs.Ytdpkommmkcmifaa
set_option linter.unusedVariables false
set_option linter.unusedSimpArgs false
open Go.ChangeShapes Go.WideShapes Go.ChangeAt Go.RowKit
theorem cellsFr : Try.prog.cellsOf 47 = 5 := by kernel_rfl
theorem cellsI : Try.prog.cellsOf 3 = 1 := by kernel_rfl
theorem array5 {α : Type} {cs : Array α} (h : cs.size = 5) : ∃ c0 c1 c2 c3 c4, cs = #[c0, c1, c2, c3, c4] := by
  obtain ⟨l⟩ := cs
  match l, h with
  | [c0, c1, c2, c3, c4], _ => exact ⟨c0, c1, c2, c3, c4, rfl⟩
section
variable {H : Type} {enc : TypeId × Value → H} {W : World}
theorem open_i {fuel : Nat} {v : Value} {x : DataW H × List MemPlace} (h : DataW.trod enc Try.prog W 0 (fun _ => true) true fuel 3 [v] = some x) : ∃ m : Int, v = .int .i64 m ∧ -9223372036854775808 ≤ m ∧ m ≤ 9223372036854775807 := by
  obtain ⟨z, e, _, wm⟩ := DataW.trod_int Try.underlying3 h
  have h2 : -9223372036854775808 ≤ z ∧ z ≤ 9223372036854775807 := by simpa [Lit.wf, IntKind.min, IntKind.max, IntKind.signed, IntKind.bits] using wm
  simp at e
  exact ⟨z, e, h2⟩
/-- a frame -/
structure Frm where
  st : Int
  tm : Nat
  sq : Nat
  lf : Nat
  d : List UInt8
structure Frm.ok (f : Frm) : Prop where
  st : -9223372036854775808 ≤ f.st ∧ f.st ≤ 9223372036854775807
  tm : f.tm < 18446744073709551616
  sq : f.sq < 18446744073709551616
  lf : f.lf < 18446744073709551616
  d : f.d.length ≤ 140737488351232
def frmW (f : Frm) (a : Option Addr) (c : Nat) : Value := .agg #[.int .i64 f.st, .int .u64 (f.tm : Nat), .int .u64 (f.sq : Nat), .int .u64 (f.lf : Nat), .slice a f.d.length c]
set_option maxRecDepth 20000 in
theorem opened_frm {v : Value} {d : DataW H} {p : List MemPlace} {r : Reach} {b0 : Nat} (hv : Value.okWide Try.prog W r b0 47 v)
    (h : DataW.Trod enc Try.prog W 0 (fun _ => true) true 47 v d p) (hw : ∀ n ∈ d.weights Try.prog 47, n ≤ reachBytes) :
    ∃ (f : Frm) (a : Option Addr) (c : Nat), v = frmW f a c ∧ (Rd W a f.d ∧ f.d.length ≤ c ∧ (a = none → c = 0) ∧ f.ok) := by
  obtain ⟨cs, rfl, hsz⟩ := okWide_struct Try.underlying47 hv
  rw [cellsFr] at hsz
  obtain ⟨c0, c1, c2, c3, c4, rfl⟩ := array5 hsz
  obtain ⟨fuel, hf⟩ := h
  obtain ⟨xs, n, _, hx, _, hlen, hfl⟩ := DataW.trod_struct Try.underlying47 hf
  match xs, hlen with
  | [y0, y1, y2, y3], _ =>
    have t0 := hfl 0 _ rfl
    have t1 := hfl 1 _ rfl
    have t2 := hfl 2 _ rfl
    have t3 := hfl 3 _ rfl
    simp [cellsU, cellsS8, cellsSt, cellsI, Value.cells] at t0 t1 t2 t3
    have hxd : d = .agg [y0.1, y1.1, y2.1, y3.1] := by
      have := congrArg Prod.fst hx
      simpa using this
    obtain ⟨st, rfl, hst⟩ := open_i t0
    obtain ⟨lf, rfl, hlf⟩ := open_u t2
    obtain ⟨z0, z1, _, _, _, g0, g1⟩ := trod_struct2 Try.underlying25 t1
    simp [cellsU] at g0 g1
    obtain ⟨tm, rfl, htm⟩ := open_u g0
    obtain ⟨sq, rfl, hsq⟩ := open_u g1
    obtain ⟨pa, pc, ys, rfl, hrp, hlp, hnp, hpn⟩ := open_s t3 (fun n hn => hw n (by
      rw [hxd]
      simp only [DataW.weights, Try.underlying47]
      exact DataW.weights_mem_each (j := 3) (t := 27) (d := y3.1) rfl rfl n hn))
    exact ⟨⟨st, tm, sq, lf, ys⟩, pa, pc, rfl, hrp, hlp, hnp, ⟨hst, htm, hsq, hlf, by simp only; omega⟩⟩
end
end Go.Proofs.Ytdpkommmkcmifaa
