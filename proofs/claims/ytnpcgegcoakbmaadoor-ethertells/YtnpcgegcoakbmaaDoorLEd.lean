import Derived.Test.YtnpcgegcoakbmaaDoorLEc
namespace Go.Proofs.YtnpcgegcoakbmaaDoor
set_option linter.unusedVariables false
set_option linter.unusedSimpArgs false
open Go.RowKit
/-- a call of a script that came in -/
structure OpD where
  kd : Int
  i : Int
  at_ : Int
  m : Nat
  a : Option Addr
  n : Nat
  c : Nat
  xs : List UInt8
structure OpOk (w : World) (o : OpD) : Prop where
  hn : o.n = o.xs.length
  rd : Rd w o.a o.xs
  nil : o.a = none → o.c = 0
  le : o.n ≤ 140737488351232
  hm : o.m < 4294967296
  ha : -9223372036854775808 ≤ o.at_ ∧ o.at_ ≤ 9223372036854775807
  hi : -9223372036854775808 ≤ o.i ∧ o.i ≤ 9223372036854775807
abbrev opl (o : OpD) : List Value := [.int .i64 o.kd, .slice o.a o.n o.c, .int .i64 o.i, .int .i64 o.at_, .int .u32 (o.m : Int)]
def RdO (w : World) (a : Option Addr) (xs : List OpD) : Prop := ∀ j (hj : j < xs.length), ∃ b o, a = some ⟨b, o, none⟩ ∧ OpOk w xs[j] ∧ w.rangeAt b (o + j * 5) (opl xs[j])
theorem OpOk.below {w w' : World} {o : OpD} (h : OpOk w o) (hb : Below w.heap.size w w') : OpOk w' o := ⟨h.hn, Rd.below h.rd hb, h.nil, h.le, h.hm, h.ha, h.hi⟩
theorem RdO.below {w w' : World} {a : Option Addr} {xs : List OpD} (h : RdO w a xs) (hb : Below w.heap.size w w') : RdO w' a xs := fun j hj => by
  obtain ⟨b, o, h1, h0, h2⟩ := h j hj
  exact ⟨b, o, h1, h0.below hb, rangeAt_below h2 hb⟩
def nxo (R : Nat) (L : List Dgm) (o : OpD) : List Dgm := nx R L o.kd o.xs o.i o.at_ o.m
theorem infoOp : (Tryd.prog.info? tOp).map (fun i => (i.zero, i.size, i.bytes)) = some (some (.agg #[.int .i64 0, .slice none 0 0, .int .i64 0, .int .i64 0, .int .u32 0]), 5, 56) := by kernel_rfl
section
variable {B : Nat} {w : World} {p q R : Nat} {L : List Dgm}
theorem step_t (hP : On SP B X0 w p R L) (hR : On SR B X0 w q R L) (hB : B ≤ w.heap.size) (kd i at_ : Int) (m : Nat) (hm : m < 4294967296) (ha0 : -9223372036854775808 ≤ at_) (ha1 : at_ ≤ 9223372036854775807) (ao : Option Addr) (n cap : Nat) (xs : List UInt8) (hn : n = xs.length) (hx : ∀ u, Below B w u → Rd u ao xs) (hnil : ao = none → cap = 0) (hl : n ≤ 140737488351232) (ht : ∀ u, Below B w u → TabZ u) :
    Calls Tryd.prog 23 #[.pointer (some ⟨p, 0, none⟩), .pointer (some ⟨q, 0, none⟩), .agg (opv kd ao n cap i at_ m)] w fun e w' => e = .returned (.bool true) ∧ On SP B X0 w' p R (nx R L kd xs i at_ m) ∧ On SR B X0 w' q R (nx R L kd xs i at_ m) ∧ Below B w w' := by
  by_cases h1 : kd = 1
  · subst h1; exact step_1 hP hR hB i at_ m hm ha0 ha1 ao n cap xs hn hx hnil hl ht
  by_cases h2 : kd = 2
  · subst h2; exact step_2 hP hR hB i at_ m hm ha0 ha1 ao n cap xs hn hx hnil hl ht
  by_cases h3 : kd = 3
  · subst h3; exact step_3 hP hR hB i at_ m hm ha0 ha1 ao n cap xs hn hx hnil hl ht
  by_cases h4 : kd = 4
  · subst h4; exact step_4 hP hR hB i at_ m hm ha0 ha1 ao n cap xs hn hx hnil hl ht
  by_cases h5 : kd = 5
  · subst h5; exact step_5 hP hR hB i at_ m hm ha0 ha1 ao n cap xs hn hx hnil hl ht
  by_cases h6 : kd = 6
  · subst h6; exact step_6 hP hR hB i at_ m hm ha0 ha1 ao n cap xs hn hx hnil hl ht
  exact step_0 hP hR hB kd h1 h2 h3 h4 h5 h6 i at_ m hm ha0 ha1 ao n cap xs hn hx hnil hl ht
end
end Go.Proofs.YtnpcgegcoakbmaaDoor
