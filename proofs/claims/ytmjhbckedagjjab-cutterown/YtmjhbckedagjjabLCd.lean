import Derived.Test.YtmjhbckedagjjabLCc
namespace Go.Proofs.Ytmjhbckedagjjab
set_option linter.unusedVariables false
set_option linter.unusedSimpArgs false
open Go.RowKit
/-- a call of a script that came in -/
structure OpD where
  kd : Int
  i : Int
  a : Option Addr
  n : Nat
  c : Nat
  xs : List UInt8
structure OpOk (w : World) (o : OpD) : Prop where
  hn : o.n = o.xs.length
  rd : Rd w o.a o.xs
  nil : o.a = none → o.c = 0
  le : o.n ≤ 140737488351232
  hi : -9223372036854775808 ≤ o.i ∧ o.i ≤ 9223372036854775807
abbrev opl (o : OpD) : List Value := [.int .i64 o.kd, .int .i64 o.i, .slice o.a o.n o.c]
def RdO (w : World) (a : Option Addr) (xs : List OpD) : Prop := ∀ j (hj : j < xs.length), ∃ b o, a = some ⟨b, o, none⟩ ∧ OpOk w xs[j] ∧ w.rangeAt b (o + j * 3) (opl xs[j])
theorem OpOk.below {w w' : World} {o : OpD} (h : OpOk w o) (hb : Below w.heap.size w w') : OpOk w' o := ⟨h.hn, Rd.below h.rd hb, h.nil, h.le, h.hi⟩
theorem RdO.below {w w' : World} {a : Option Addr} {xs : List OpD} (h : RdO w a xs) (hb : Below w.heap.size w w') : RdO w' a xs := fun j hj => by
  obtain ⟨b, o, h1, h0, h2⟩ := h j hj
  exact ⟨b, o, h1, h0.below hb, rangeAt_below h2 hb⟩
theorem op_cells {w : World} {b o : Nat} {kd oi : Int} {oa : Option Addr} {on oc : Nat} {oxs : List UInt8} (h : w.rangeAt b o (opl ⟨kd, oi, oa, on, oc, oxs⟩)) : w.cell? ⟨b, o, none⟩ = some (.int .i64 kd) ∧ w.cell? ⟨b, o + 1, none⟩ = some (.int .i64 oi) ∧ w.cell? ⟨b, o + 2, none⟩ = some (.slice oa on oc) := ⟨h 0 _ rfl, h 1 _ rfl, h 2 _ rfl⟩
theorem size_op : (Try.prog.info? tOp).map (·.size) = some 3 := by kernel_rfl
theorem RdO.load {w : World} {b o : Nat} {xs : List OpD} {k : Nat} {y : OpD} (hr : w.rangeAt b (o + k * 3) (opl y)) (u : World) (hu : Below w.heap.size w u) : (Instr.loadAt tOp (.pointer (some ⟨b, o + k * 3, none⟩))).run Try.prog u = .ok (.agg (opv y.kd y.i y.a y.n y.c)) u := run_loadAt_mid u _ _ _ (opl y) _ (rangeAt_below hr hu) Try.underlying32 rfl size_op
/-- the loop's state: both boxes, some state -/
structure Ply (w0 w : World) (pv qv : Option Addr) : Prop where
  ex : ∃ St H, Pr w pv qv St H ∧ ∀ b, H b → w0.heap.size ≤ b
  bel : Below w0.heap.size w0 w
theorem Ply.step {w0 w w' : World} {pv qv : Option Addr} {H : Nat → Prop} (hb : Below w0.heap.size w0 w) (hH : ∀ b, H b → w0.heap.size ≤ b) {St' : Option (List Seg)} (h : Lft (fun u H' => Pr u pv qv St' H') H w w') : Ply w0 w' pv qv := by
  obtain ⟨H', h1, h2⟩ := h.ex
  refine ⟨⟨St', H', h1, fun b hb2 => ?_⟩, hb.trans (h.chg.below hH hb.size)⟩
  rcases h2 b hb2 with h3 | h3
  · exact hH b h3
  · exact Nat.le_trans hb.size h3
theorem Ply.below {w0 w w' : World} {pv qv : Option Addr} (h : Ply w0 w pv qv) (hb : Below w.heap.size w w') : Ply w0 w' pv qv := by
  obtain ⟨St, H, h1, h2⟩ := h.ex
  exact ⟨⟨St, H, h1.below hb, h2⟩, h.bel.trans (hb.mono h.bel.size)⟩
/-- ask, whatever state the boxes have -/
theorem Ply.ask {w0 w : World} {pv qv : Option Addr} (h : Ply w0 w pv qv) (kd i : Int) (ao : Option Addr) (n cap : Nat) (xs : Seg) (hn : n = xs.length) (hx : ∀ u, Below w0.heap.size w0 u → Rd u ao xs) (hnil : ao = none → cap = 0) (hl : n ≤ 140737488351232) :
    Calls Try.prog 8 #[.pointer pv, .pointer qv, .agg (opv kd i ao n cap)] w fun e w' => e = .returned (.bool true) ∧ Ply w0 w' pv qv := by
  obtain ⟨St, H, h1, h2⟩ := h.ex
  refine Calls.mono (ask_t h1 w0.heap.size h2 h.bel.size kd i ao n cap xs hn (fun u hu => hx u (h.bel.trans hu)) hnil hl) ?_
  rintro e w' ⟨rfl, h3⟩
  exact ⟨rfl, Ply.step h.bel h2 h3⟩
theorem Ply.begin_ (w0 : World) {w : World} (hb0 : Below w0.heap.size w0 w) (r : Int) : Calls Try.prog 7 #[.int .i64 r] w fun e w' => ∃ pv qv, e = .returned (.tuple #[.pointer pv, .pointer qv, .bool true]) ∧ Ply w0 w' pv qv := by
  refine Calls.mono (begin_t r w) ?_
  rintro e w' ⟨pv, qv, H, rfl, h1, h2, h3⟩
  exact ⟨pv, qv, rfl, ⟨_, H, h1, fun b hb => Nat.le_trans hb0.size (h2 b hb)⟩, below_next hb0 h3⟩
end Go.Proofs.Ytmjhbckedagjjab
