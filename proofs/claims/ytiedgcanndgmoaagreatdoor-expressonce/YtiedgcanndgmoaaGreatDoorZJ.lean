import Derived.Test.YtiedgcanndgmoaaGreatDoorZA
import Derived.Test.YtiedgcanndgmoaaGreatDoorUE
import Derived.Test.YtiedgcanndgmoaaGreatDoorSeal
import Derived.Test.YtiedgcanndgmoaaGreatDoorHelp
import Derived.Test.YtiedgcanndgmoaaGreatDoorClone
import Derived.Laws.CopyOwn
import Derived.Laws.OwnMore
import Derived.OwnWalk
import Derived.Test.YtiedgcanndgmoaaGreatDoorXK
import Derived.Test.YtiedgcanndgmoaaGreatDoorRL
namespace Go.Proofs.YtiedgcanndgmoaaGreatDoor
set_option linter.unusedVariables false
set_option linter.unusedSimpArgs false
open Go.RowKit Go.Maps
abbrev KRq : Kd Rg := { t := 134, ts := 39, k := 2, by_ := 16, f := rv, z := .agg #[.int .i64 0, .int .i64 0], hk := fun _ => rfl, h1 := (fun d u hu => by simp [rv] at hu; rcases hu with rfl | rfl <;> rfl), hpos := by decide, ht := Tryz.underlying39, hi := by kernel_rfl, hz := rfl }
theorem RdR.news {w : World} {ad : Addr} {ys : List Rg} (hr : RdR w (some ad) ys) : ∀ j u, (KRq.flat ys)[j]? = some u → w.cell? (ad.add j) = some u := fun j u hj => by
  have hlt : j < ys.length * 2 := by
    have := (List.getElem?_eq_some_iff.1 hj).1
    rw [Kd.flat_len] at this
    exact this
  obtain ⟨b, o, h1, h2, h3⟩ := hr (j / 2) (by omega)
  cases h1
  rw [Go.WideShapes.add_plain]
  have hf : ∀ q, q < 2 → (KRq.flat ys)[j / 2 * 2 + q]? = (rv ys[j / 2])[q]? := fun q hq => Kd.flat_get (K := KRq) ys (j / 2) q (by omega) hq
  by_cases e : j % 2 = 0
  · have ej : j = j / 2 * 2 := by omega
    have h9 := hf 0 (by decide)
    rw [Nat.add_zero, ← ej] at h9
    rw [h9] at hj
    rw [ej, h2]
    exact hj
  · have ej : j = j / 2 * 2 + 1 := by omega
    have h9 := hf 1 (by decide)
    rw [← ej] at h9
    rw [h9] at hj
    rw [ej, ← Nat.add_assoc, h3]
    exact hj
section
variable {w w' : World}
set_option maxRecDepth 20000
set_option maxHeartbeats 6400000
end
end Go.Proofs.YtiedgcanndgmoaaGreatDoor
namespace Go.Proofs.YtiedgcanndgmoaaGreatDoor
set_option linter.unusedVariables false
set_option linter.unusedSimpArgs false
open Go.RowKit Go.Maps
/-- one call of a script -/
structure Oe where
  kd : Int
  n : Nat
  k : Fk
  xs : List UInt8
  ba : Option Addr
  bn : Nat
  bc : Nat
  now : Nat
  u : Un
  da : Option Addr
  dn : Nat
  dc : Nat
  ga : Option Addr
  gn : Nat
  gc : Nat
abbrev tOe : TypeId := 43
abbrev Oe.c (y : Oe) : Array Value := #[.int .i64 y.kd, .int .u64 (y.n : Int), .int .i64 y.k.1, .int .u64 (y.k.2 : Int), .slice y.ba y.bn y.bc, .int .u64 (y.now : Int), .int .i64 y.u.kind, .int .u64 y.u.ep, .int .u64 y.u.se, .int .i64 y.u.path, .int .i64 y.u.idx, .int .i64 y.u.cnt, .slice y.da y.dn y.dc, .int .i64 y.u.code, .slice y.ga y.gn y.gc]
structure OeOk (w : World) (y : Oe) : Prop where
  kf : inF y.k
  nn : y.n < 18446744073709551616
  bn : y.bn = y.xs.length
  br : Rd w y.ba y.xs
  bl : y.bn ≤ y.bc
  bz : y.ba = none → y.bc = 0
  bb : y.bc ≤ 140737488351232
  hn : y.dn = y.u.data.length
  hg : y.gn = y.u.got.length
  rd : Rd w y.da y.u.data
  dl : y.u.data.length ≤ y.dc
  dz : y.da = none → y.dc = 0
  db : y.dc ≤ 140737488351232
  rg : RdR w y.ga y.u.got
  gl : y.u.got.length ≤ y.gc
  gz : y.ga = none → y.gc = 0
  gb : y.gc ≤ 8796093021952
  ee : ∃ n : Nat, y.u.ep = (n : Int) ∧ n < 18446744073709551616
  es : ∃ n : Nat, y.u.se = (n : Int) ∧ n < 18446744073709551616
theorem OeOk.below {w w' : World} {x : Oe} (h : OeOk w x) (hb : Below w.heap.size w w') : OeOk w' x := ⟨h.kf, h.nn, h.bn, Rd.below h.br hb, h.bl, h.bz, h.bb, h.hn, h.hg, Rd.below h.rd hb, h.dl, h.dz, h.db, h.rg.below hb, h.gl, h.gz, h.gb, h.ee, h.es⟩
/-- both senders, the program's in the state s, the document's in the state t; the blocks of H are none of theirs -/
structure Exx (w : World) (H : Nat → Prop) (p ms mn pw mw : Nat) (V : Nat → Nat → Value) (q : Nat) (v : Value) (X : Value × Value × Value × Value) (s t : Xs) : Prop where
  a : XSt w p ms mn pw mw V s
  b : Rx w q v X t
  ap : ∀ b, footX p ms mn pw mw V b → ¬ footR q v b
  av : ∀ b, H b → b < w.heap.size ∧ ¬ footX p ms mn pw mw V b ∧ ¬ footR q v b
  tz : Wh.TabZ w
  h0 : H 0
section
variable {w w' : World} {H : Nat → Prop} {p ms mn pw mw : Nat} {V V' : Nat → Nat → Value} {q : Nat} {v v' : Value} {X : Value × Value × Value × Value} {s s' t t' : Xs}
theorem tab_kept (h : Wh.TabZ w) (hb : w'.heap[0]? = w.heap[0]?) : Wh.TabZ w' := fun j hj => (World.cell?_of_block hb).trans (h j hj)
theorem Exx.below (h : Exx w H p ms mn pw mw V q v X s t) (hb : Below w.heap.size w w') : Exx w' H p ms mn pw mw V q v X s t :=
  ⟨h.a.below hb, h.b.below hb, h.ap, fun b hb' => ⟨Nat.lt_of_lt_of_le (h.av b hb').1 hb.size, (h.av b hb').2⟩, h.tz.below hb, h.h0⟩
theorem Exx.chg0 (h : Exx w H p ms mn pw mw V q v X s t) {F : Nat → Prop} (hc : Chg F w w') (h1 : ∀ b, F b → ¬ footX p ms mn pw mw V b) (h2 : ∀ b, F b → ¬ footR q v b) (h3 : ∀ b, F b → ¬ H b) : Exx w' H p ms mn pw mw V q v X s t :=
  ⟨h.a.chg hc (fun b hb hf => h1 b hf hb), h.b.chg hc (fun b hb hf => h2 b hf hb), h.ap, fun b hb' => ⟨Nat.lt_of_lt_of_le (h.av b hb').1 hc.size, (h.av b hb').2⟩, tab_kept h.tz (hc.block 0 (h.av 0 h.h0).1 (fun hf => h3 0 hf h.h0)), h.h0⟩
theorem Exx.prog (h : Exx w H p ms mn pw mw V q v X s t) (ha : XSt w' p ms mn pw mw V' s') (hs : XStp w w' p ms mn pw mw V V') : Exx w' H p ms mn pw mw V' q v X s' t ∧ Chg (fun b => ¬ H b) w w' := by
  have hq : ∀ b, footR q v b → ¬ footX p ms mn pw mw V b := fun b hb hf => h.ap b hf hb
  refine ⟨⟨ha, h.b.chg hs.chg hq, ?_, ?_, tab_kept h.tz (hs.chg.block 0 (h.av 0 h.h0).1 (h.av 0 h.h0).2.1), h.h0⟩, hs.chg.mono (fun b hb hh => (h.av b hh).2.1 hb)⟩
  · intro b hb hr
    rcases hs.new b hb with h1 | h1
    · exact h.ap b h1 hr
    · have := h.b.lt hr; omega
  · intro b hb
    refine ⟨Nat.lt_of_lt_of_le (h.av b hb).1 hs.chg.size, fun hf => ?_, (h.av b hb).2.2⟩
    rcases hs.new b hf with h1 | h1
    · exact (h.av b hb).2.1 h1
    · have := (h.av b hb).1; omega
theorem Exx.doc (h : Exx w H p ms mn pw mw V q v X s t) (ha : Rx w' q v' X t') (hs : RxStp w w' q v v') : Exx w' H p ms mn pw mw V q v' X s t' ∧ Chg (fun b => ¬ H b) w w' := by
  refine ⟨⟨h.a.chg hs.chg h.ap, ha, ?_, ?_, tab_kept h.tz (hs.chg.block 0 (h.av 0 h.h0).1 (h.av 0 h.h0).2.2), h.h0⟩, hs.chg.mono (fun b hb hh => (h.av b hh).2.2 hb)⟩
  · intro b hb hr
    rcases hs.new b hr with h1 | h1
    · exact h.ap b hb h1
    · have := h.a.lt hb; omega
  · intro b hb
    refine ⟨Nat.lt_of_lt_of_le (h.av b hb).1 hs.chg.size, (h.av b hb).2.1, fun hf => ?_⟩
    rcases hs.new b hf with h1 | h1
    · exact (h.av b hb).2.2 h1
    · have := (h.av b hb).1; omega
/-- one block more that is none of theirs -/
theorem Exx.more (h : Exx w H p ms mn pw mw V q v X s t) {B : Nat} (hB : B < w.heap.size) (h1 : ¬ footX p ms mn pw mw V B) (h2 : ¬ footR q v B) : Exx w (fun b => H b ∨ b = B) p ms mn pw mw V q v X s t :=
  ⟨h.a, h.b, h.ap, fun b hb => by
    rcases hb with hb | rfl
    · exact h.av b hb
    · exact ⟨hB, h1, h2⟩, h.tz, .inl h.h0⟩
theorem Exx.less {H' : Nat → Prop} (h : Exx w H p ms mn pw mw V q v X s t) (hs : ∀ b, H' b → H b) (h0 : H' 0) : Exx w H' p ms mn pw mw V q v X s t := ⟨h.a, h.b, h.ap, fun b hb => h.av b (hs b hb), h.tz, h0⟩
theorem Exx.box (h : Exx w H p ms mn pw mw V q v X s t) (o : Obj) : Exx (w.alloc o) (fun b => H b ∨ b = w.heap.size) p ms mn pw mw V q v X s t :=
  (h.below (alw (Below.refl _ _) o)).more (by simp) (fun hf => Nat.lt_irrefl _ (h.a.lt hf)) (fun hf => Nat.lt_irrefl _ (h.b.lt hf))
theorem Chg.less {F G : Nat → Prop} (h : Chg F w w') (hG : ∀ b, F b → G b) : Chg G w w' := h.mono hG
end
end Go.Proofs.YtiedgcanndgmoaaGreatDoor
namespace Go.Proofs.YtiedgcanndgmoaaGreatDoor
set_option linter.unusedVariables false
set_option linter.unusedSimpArgs false
open Go.RowKit Go.Maps
section
variable {w w' : World} {H : Nat → Prop} {p ms mn pw mw : Nat} {V V' : Nat → Nat → Value} {q : Nat} {v v' : Value} {X : Value × Value × Value × Value} {s s' t t' : Xs}
set_option maxRecDepth 20000
set_option maxHeartbeats 6400000
theorem oeCells {u : World} {B : Nat} {y : Oe} (h : u.heap[B]? = some (.cells y.c tOe (0, 0))) : u.cell? ⟨B, 0, none⟩ = some (.int .i64 y.kd) ∧ u.cell? ⟨B, 1, none⟩ = some (.int .u64 (y.n : Int)) ∧ u.cell? ⟨B, 2, none⟩ = some (.int .i64 y.k.1) ∧ u.cell? ⟨B, 3, none⟩ = some (.int .u64 (y.k.2 : Int)) ∧ u.cell? ⟨B, 4, none⟩ = some (.slice y.ba y.bn y.bc) ∧ u.cell? ⟨B, 5, none⟩ = some (.int .u64 (y.now : Int)) := by
  refine ⟨?_, ?_, ?_, ?_, ?_, ?_⟩
  all_goals (rw [cell_of_row _ _ _ _ _ _ h]; rfl)
end
end Go.Proofs.YtiedgcanndgmoaaGreatDoor
namespace Go.Proofs.YtiedgcanndgmoaaGreatDoor
set_option linter.unusedVariables false
set_option linter.unusedSimpArgs false
open Go.RowKit Go.Maps
theorem cutN_64 {l m : Nat} (h1 : 16 ≤ m) (h2 : l ≤ 1024) : cutN l m ≤ 64 := by
  unfold cutN
  refine Nat.le_of_lt_succ ((Nat.div_lt_iff_lt_mul (by omega)).2 ?_)
  omega
end Go.Proofs.YtiedgcanndgmoaaGreatDoor
