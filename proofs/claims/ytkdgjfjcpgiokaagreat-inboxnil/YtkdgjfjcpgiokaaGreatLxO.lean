import Derived.Test.YtkdgjfjcpgiokaaGreatLxB
namespace Go.Proofs.YtkdgjfjcpgiokaaGreat
set_option linter.unusedVariables false
set_option linter.unusedSimpArgs false
open Go.RowKit Go.Maps
/-- a unit with its memory -/
structure UnM where
  u : Un
  da : Option Addr
  dn : Nat
  dc : Nat
  ga : Option Addr
  gn : Nat
  gc : Nat
abbrev UnM.c (x : UnM) : Array Value := unC x.u.kind x.u.ep x.u.se x.u.path x.u.idx x.u.cnt x.da x.dn x.dc x.u.code x.ga x.gn x.gc
structure UnOk (w : World) (x : UnM) : Prop where
  hn : x.dn = x.u.data.length
  hg : x.gn = x.u.got.length
  rd : Rd w x.da x.u.data
  dl : x.u.data.length ≤ x.dc
  dz : x.da = none → x.dc = 0
  db : x.dc ≤ 140737488351232
  rg : RdR w x.ga x.u.got
  gl : x.u.got.length ≤ x.gc
  gz : x.ga = none → x.gc = 0
  gb : x.gc ≤ 8796093021952
  ee : ∃ n : Nat, x.u.ep = (n : Int) ∧ n < 18446744073709551616
  es : ∃ n : Nat, x.u.se = (n : Int) ∧ n < 18446744073709551616
theorem UnOk.below {w w' : World} {x : UnM} (h : UnOk w x) (hb : Below w.heap.size w w') : UnOk w' x := ⟨h.hn, h.hg, Rd.below h.rd hb, h.dl, h.dz, h.db, h.rg.below hb, h.gl, h.gz, h.gb, h.ee, h.es⟩
end Go.Proofs.YtkdgjfjcpgiokaaGreat
