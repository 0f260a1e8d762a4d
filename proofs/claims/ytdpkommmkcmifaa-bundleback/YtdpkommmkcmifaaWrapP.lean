import Derived.Test.YtdpkommmkcmifaaBlkRow
import Derived.Test.YtdpkommmkcmifaaZb
import Derived.Deep.CutRange
namespace Go.Proofs.Ytdpkommmkcmifaa
set_option linter.unusedVariables false
set_option linter.unusedSimpArgs false
open Go.RowKit
/-- what lies in memory when Wrap has made its bundle -/
structure WrapRel (w wx : World) (tt s fr tm sq lf : Nat) (d : List UInt8) (L Q : Nat) (a1 a2 a3 : Option Addr) (c1 c2 c3 : Nat) : Prop where
  bel : Below w.heap.size w wx
  hL : w.heap.size ≤ L
  hQ : w.heap.size ≤ Q
  nLQ : L ≠ Q
  box : wx.heap[L]? = some (.cells #[.int .u64 5, .int .u64 (tt : Nat), .int .u64 (s : Nat), .int .u64 (fr : Nat), .int .u64 (s : Nat), .int .u64 (fr : Nat), .int .u64 0, .int .u64 (tm : Nat), .int .u64 (sq : Nat), .int .u64 (lf : Nat), .slice (some ⟨Q, 0, none⟩) 2 2, .slice a3 d.length c3] 34 (0, 0))
  row : wx.heap[Q]? = some (.cells #[.int .u64 10, .int .u64 2, .int .u64 0, .slice a1 2 c1, .int .u64 7, .int .u64 3, .int .u64 0, .slice a2 1 c2] 37 (0, 0))
  o1 : Own wx w.heap.size (.slice a1 2 c1) [8, 0]
  o2 : Own wx w.heap.size (.slice a2 1 c2) [0]
  o3 : Own wx w.heap.size (.slice a3 d.length c3) d
  n1 : ∀ q, a1 = some q → q.block ≠ Q ∧ q.block ≠ L
  n2 : ∀ q, a2 = some q → q.block ≠ Q ∧ q.block ≠ L
  n3 : ∀ q, a3 = some q → q.block ≠ Q ∧ q.block ≠ L
theorem own_neW {a : Option Addr} {n c r : Nat} (h : ∀ q, a = some q → q.block ≠ r) : (Value.slice a n c).ownBlock = none ∨ (Value.slice a n c).ownBlock ≠ some r := by
  cases a with
  | none => left; rfl
  | some q => right; simpa [Value.ownBlock] using h q rfl
theorem own_nbW {w : World} {B r : Nat} {v : Value} {xs : List UInt8} (h : Own w B v xs) (hr : r < B) : v.ownBlock = none ∨ v.ownBlock ≠ some r := by
  cases e : v.ownBlock with
  | none => left; rfl
  | some q => right; have := (World.ownsRow.lt h q e).1; simp; omega
theorem own_ltW {w : World} {B n c : Nat} {a : Option Addr} {xs : List UInt8} (h : Own w B (.slice a n c) xs) : ∀ q, a = some q → B ≤ q.block ∧ q.block < w.heap.size := by
  intro q hq
  subst hq
  exact World.ownsRow.lt h q.block rfl
theorem dgs_80 : [] ++ dgs [8, 0] = [8, 0] := by simp [dgs, dg, hiD, hiF_zero]
theorem dgs_0 : [] ++ dgs [0] = [0] := by simp [dgs, dg, hiD, hiF_zero]
theorem alloc_facts {w1 u v : World} {g : Nat} {o : Obj} (h : Hid (Below w1.heap.size w1 u)) (hv : v = u.alloc o) (hg : g = u.heap.size) : Below u.heap.size u v ∧ v.heap[g]? = some o ∧ w1.heap.size ≤ g ∧ Hid (Below w1.heap.size w1 v) := by
  have hb : Below u.heap.size u v := by rw [hv]; exact al (Below.refl _ _) _
  exact ⟨hb, by rw [hv, hg]; exact heap_alloc_new _ _, by rw [hg]; exact h.out.size, below_next h.out hb⟩
theorem own_new {u : World} {g B n c : Nat} {a : Option Addr} {xs : List UInt8} (hg : g = u.heap.size) (h : Hid (Own u B (.slice a n c) xs)) : ∀ q, a = some q → q.block ≠ g := fun q hq => by have := (own_ltW h.out q hq).2; omega
theorem box_new {u : World} {g L : Nat} {o : Obj} (hg : g = u.heap.size) (h : Hid (u.heap[L]? = some o)) : L ≠ g := by have := (Array.getElem?_eq_some_iff.1 h.out).1; omega
theorem own_old {u v : World} {L n c : Nat} {o : Obj} {a : Option Addr} {xs : List UInt8} (h : Hid (u.heap[L]? = some o)) (hn : Own v u.heap.size (.slice a n c) xs) : ∀ q, a = some q → q.block ≠ L := fun q hq => by have h1 := (own_ltW hn q hq).1; have h2 := (Array.getElem?_eq_some_iff.1 h.out).1; omega
theorem lay1 {u : World} {g : Nat} (h : RdU u (some ⟨g, 0, none⟩) [8, 0]) : Calls Try.prog 34 #[.slice none 0 0, .slice (some ⟨g, 0, none⟩) 2 2] u fun e v => ∃ a c, e = .returned (.slice a 2 c) ∧ Own v u.heap.size (.slice a 2 c) [8, 0] ∧ Below u.heap.size u v := by
  refine (lay_any none 0 [] _ 2 2 [8, 0] rfl _ (Rd.nil _ _) (fun _ => rfl) h (by intro n hn; simp at hn; omega) (by simp) (by simp) (by simp)).mono ?_
  rintro e v ⟨val, rfl, hown, hb⟩
  rw [dgs_80] at hown
  obtain ⟨a, c, hval, -⟩ := hown.val
  obtain rfl : val = .slice a 2 c := hval
  exact ⟨a, c, rfl, hown, hb⟩
theorem lay2 {u : World} {g : Nat} (h : RdU u (some ⟨g, 0, none⟩) [0]) : Calls Try.prog 34 #[.slice none 0 0, .slice (some ⟨g, 0, none⟩) 1 1] u fun e v => ∃ a c, e = .returned (.slice a 1 c) ∧ Own v u.heap.size (.slice a 1 c) [0] ∧ Below u.heap.size u v := by
  refine (lay_any none 0 [] _ 1 1 [0] rfl _ (Rd.nil _ _) (fun _ => rfl) h (by intro n hn; simp at hn; omega) (by simp) (by simp) (by simp)).mono ?_
  rintro e v ⟨val, rfl, hown, hb⟩
  rw [dgs_0] at hown
  obtain ⟨a, c, hval, -⟩ := hown.val
  obtain rfl : val = .slice a 1 c := hval
  exact ⟨a, c, rfl, hown, hb⟩
theorem rowB_two {wx : World} {B Q : Nat} {a1 a2 : Option Addr} {c1 c2 : Nat} (hQ : B ≤ Q) (row : wx.heap[Q]? = some (.cells #[.int .u64 10, .int .u64 2, .int .u64 0, .slice a1 2 c1, .int .u64 7, .int .u64 3, .int .u64 0, .slice a2 1 c2] 37 (0, 0))) (o1 : Own wx B (.slice a1 2 c1) [8, 0]) (o2 : Own wx B (.slice a2 1 c2) [0]) (n1 : ∀ q, a1 = some q → q.block ≠ Q) (n2 : ∀ q, a2 = some q → q.block ≠ Q) :
    RowB wx B (.slice (some ⟨Q, 0, none⟩) 2 2) [⟨10, 2, 0, [8, 0]⟩, ⟨7, 3, 0, [0]⟩] := by
  refine ⟨_, ⟨rfl, .inr ⟨Q, 2, _, rfl, hQ, row, Nat.le_refl _, by simp [maxLen], rfl, rfl⟩⟩, fun j hj => ?_⟩
  have hj2 : j = 0 ∨ j = 1 := by simp at hj; omega
  rcases hj2 with rfl | rfl
  · exact ⟨a1, c1, rfl, rfl, rfl, rfl, o1, own_neW n1⟩
  · exact ⟨a2, c2, rfl, rfl, rfl, rfl, o2, own_neW n2⟩
theorem with_all {P : Program} {md : Region.Mode} {ops : Array Oper} {Q : Exit → Act → World → Prop} {S : World → Prop} {n n' : Nat} {l : Array Bool} {a : Act} {w : World} (hn : n = n') (h : ∀ (O : Array Oper) (R : Exit → Act → World → Prop), Hid (O = ops) → Hid (R = Q) → wpAnyH P md O R S n' l a w) : wpAnyH P md ops Q S n l a w := by
  rw [hn]
  exact h ops Q rfl rfl
theorem wpAnyH_listed {P : Program} {md : Region.Mode} {ops : Array Oper} {Q : Exit → Act → World → Prop} {S : World → Prop} {n : Nat} {l l' : Array Bool} {a : Act} {w : World} (hl : l = l') (h : wpAnyH P md ops Q S n l' a w) : wpAnyH P md ops Q S n l a w := by
  rw [hl]
  exact h
theorem heap_lt {w : World} {g : Nat} {c : Obj} (h : w.heap[g]? = some c) : g < w.heap.size := (Array.getElem?_eq_some_iff.1 h).1
theorem wrap_leaf {w W : World} {tt s fr tm sq lf : Nat} {d : List UInt8} {L Q : Nat} {a1 a2 a3 : Option Addr} {c1 c2 c3 : Nat} (hb : Below w.heap.size w W) (hL : w.heap.size ≤ L) (hQ : w.heap.size ≤ Q)
    (nLQ : L ≠ Q) (box : W.heap[L]? = some (.cells #[.int .u64 0, .int .u64 0, .int .u64 0, .int .u64 0, .int .u64 0, .int .u64 0, .int .u64 0, .int .u64 0, .int .u64 0, .int .u64 0, .slice none 0 0, .slice none 0 0] 34 (0, 0))) (row : W.heap[Q]? = some (.cells #[.int .u64 10, .int .u64 2, .int .u64 0, .slice a1 2 c1, .int .u64 7, .int .u64 3, .int .u64 0, .slice a2 1 c2] 37 (0, 0))) (o1 : Own W w.heap.size (.slice a1 2 c1) [8, 0]) (o2 : Own W w.heap.size (.slice a2 1 c2) [0]) (o3 : Own W w.heap.size (.slice a3 d.length c3) d)
    (n1Q : ∀ q, a1 = some q → q.block ≠ Q) (n2Q : ∀ q, a2 = some q → q.block ≠ Q) (n3Q : ∀ q, a3 = some q → q.block ≠ Q) (n1L : ∀ q, a1 = some q → q.block ≠ L) (n2L : ∀ q, a2 = some q → q.block ≠ L) (n3L : ∀ q, a3 = some q → q.block ≠ L) :
    WrapRel w ((((((((((((W.setCell ⟨L, 0, none⟩ (.int .u64 5)).setCell ⟨L, 1, none⟩ (.int .u64 (tt : Nat))).setCell ⟨L, 2, none⟩ (.int .u64 (s : Nat))).setCell ⟨L, 3, none⟩ (.int .u64 (fr : Nat))).setCell ⟨L, 4, none⟩ (.int .u64 (s : Nat))).setCell ⟨L, 5, none⟩ (.int .u64 (fr : Nat))).setCell ⟨L, 6, none⟩ (.int .u64 0)).setCell ⟨L, 7, none⟩ (.int .u64 (tm : Nat))).setCell ⟨L, 8, none⟩ (.int .u64 (sq : Nat))).setCell ⟨L, 9, none⟩ (.int .u64 (lf : Nat))).setCell ⟨L, 10, none⟩ (.slice (some ⟨Q, 0, none⟩) 2 2)).setCell ⟨L, 11, none⟩ (.slice a3 d.length c3)) tt s fr tm sq lf d L Q a1 a2 a3 c1 c2 c3 :=
  ⟨below_set12 hb hL, hL, hQ, nLQ, heap_set12 box, gr_box gr_set12 (Ne.symm nLQ) row, Own.grown o1 gr_set12 (own_neW n1L), Own.grown o2 gr_set12 (own_neW n2L), Own.grown o3 gr_set12 (own_neW n3L), fun q hq => ⟨n1Q q hq, n1L q hq⟩, fun q hq => ⟨n2Q q hq, n2L q hq⟩, fun q hq => ⟨n3Q q hq, n3L q hq⟩⟩
theorem cells5W {W : World} {g : Nat} {t : TypeId} {v0 v1 v2 v3 v4 : Value} (h : W.heap[g]? = some (.cells #[v0, v1, v2, v3, v4] t (0, 0))) : W.cell? ⟨g, 0, none⟩ = some v0 ∧ W.cell? ⟨g, 1, none⟩ = some v1 ∧ W.cell? ⟨g, 2, none⟩ = some v2 ∧ W.cell? ⟨g, 3, none⟩ = some v3 ∧ W.cell? ⟨g, 4, none⟩ = some v4 ∧ True :=
  ⟨by rw [cell_of_row W g 0 _ t _ h]; rfl, by rw [cell_of_row W g 1 _ t _ h]; rfl, by rw [cell_of_row W g 2 _ t _ h]; rfl, by rw [cell_of_row W g 3 _ t _ h]; rfl, by rw [cell_of_row W g 4 _ t _ h]; rfl, trivial⟩
theorem box5c {W : World} {g : Nat} {t : TypeId} {v0 v1 v2 v3 v4 : Value} (h : W.heap[g]? = some (.cells #[v0, v1, v2, v3, v4] t (0, 0))) : ∀ i v, #[v0, v1, v2, v3, v4][i]? = some v → ∀ u, Below W.heap.size W u → u.cell? ⟨g, i, none⟩ = some v := by
  intro i v hi u hu
  rw [cell_of_row u g i _ t _ (box_on h hu)]
  exact hi
/-- does a frame fit, its data aside -/
abbrev fitF (st : Int) (tm sq lf : Nat) : Prop := 0 ≤ st ∧ st < 8 ∧ tm ≤ 281474976710655 ∧ sq ≤ 281474976710655 ∧ lf ≤ 281474976710655
def wrB (st : Int) (tm sq lf : Nat) (d : List UInt8) (fr tt : Nat) (nw : Bool) : Bun := ⟨if nw = true then 7 else 5, tt, st.toNat, fr, st.toNat, fr, 0, tm, sq, lf, [⟨10, 2, 0, [8, 0]⟩, ⟨7, 3, 0, [0]⟩], d⟩
/-- what Wrap answers -/
def wrapS (st : Int) (tm sq lf : Nat) (d : List UInt8) (fr tt : Nat) (nw : Bool) : Bun × Int :=
  if ¬ (fitF st tm sq lf ∧ fr ≤ 281474976710655 ∧ tt ≤ 281474976710655) then (zeroB, 1) else if 512 < d.length then (zeroB, 81) else (wrB st tm sq lf d fr tt nw, 0)
def WrapOut (w w' : World) (r : Bun × Int) (e : Ending) : Prop :=
  ∃ o a c pa pc n, e = .returned (.tuple #[bunV o a c pa pc, .int .i64 n]) ∧ r = (o, n) ∧ RowB w' w.heap.size (.slice a o.bl.length c) o.bl ∧ Own w' w.heap.size (.slice pa o.py.length pc) o.py ∧ o.ok
end Go.Proofs.Ytdpkommmkcmifaa
