import Derived.Test.YtdpkommmkcmifaaZb
import Derived.Deep.CutRange
namespace Go.Proofs.Ytdpkommmkcmifaa
set_option linter.unusedVariables false
set_option linter.unusedSimpArgs false
open Go.RowKit
/-- what lies in memory when Wrap has made its bundle -/
structure WrapRel (w wx : World) (tt s fr tm sq lf : Nat) (d : List UInt8) (L Q : Nat) (a1 a2 a3 : Option Addr) (c1 c2 c3 : Nat) : Prop where
  bel : Below w.heap.size w wx
  hL : w.heap.size ≤ L
  hQ : w.heap.size ≤ Q
  nLQ : L ≠ Q
  box : wx.heap[L]? = some (.cells #[.int .u64 5, .int .u64 (tt : Nat), .int .u64 (s : Nat), .int .u64 (fr : Nat), .int .u64 (s : Nat), .int .u64 (fr : Nat), .int .u64 0, .int .u64 (tm : Nat), .int .u64 (sq : Nat), .int .u64 (lf : Nat), .slice (some ⟨Q, 0, none⟩) 2 2, .slice a3 d.length c3] 34 (0, 0))
  row : wx.heap[Q]? = some (.cells #[.int .u64 10, .int .u64 2, .int .u64 0, .slice a1 2 c1, .int .u64 7, .int .u64 3, .int .u64 0, .slice a2 1 c2] 37 (0, 0))
  o1 : Own wx w.heap.size (.slice a1 2 c1) [8, 0]
  o2 : Own wx w.heap.size (.slice a2 1 c2) [0]
  o3 : Own wx w.heap.size (.slice a3 d.length c3) d
  n1 : ∀ q, a1 = some q → q.block ≠ Q ∧ q.block ≠ L
  n2 : ∀ q, a2 = some q → q.block ≠ Q ∧ q.block ≠ L
  n3 : ∀ q, a3 = some q → q.block ≠ Q ∧ q.block ≠ L
theorem own_neW {a : Option Addr} {n c r : Nat} (h : ∀ q, a = some q → q.block ≠ r) : (Value.slice a n c).ownBlock = none ∨ (Value.slice a n c).ownBlock ≠ some r := by
  cases a with
  | none => left; rfl
  | some q => right; simpa [Value.ownBlock] using h q rfl
theorem own_nbW {w : World} {B r : Nat} {v : Value} {xs : List UInt8} (h : Own w B v xs) (hr : r < B) : v.ownBlock = none ∨ v.ownBlock ≠ some r := by
  cases e : v.ownBlock with
  | none => left; rfl
  | some q => right; have := (World.ownsRow.lt h q e).1; simp; omega
theorem own_ltW {w : World} {B n c : Nat} {a : Option Addr} {xs : List UInt8} (h : Own w B (.slice a n c) xs) : ∀ q, a = some q → B ≤ q.block ∧ q.block < w.heap.size := by
  intro q hq
  subst hq
  exact World.ownsRow.lt h q.block rfl
theorem dgs_80 : [] ++ dgs [8, 0] = [8, 0] := by simp [dgs, dg, hiD, hiF_zero]
theorem dgs_0 : [] ++ dgs [0] = [0] := by simp [dgs, dg, hiD, hiF_zero]
theorem alloc_facts {w1 u v : World} {g : Nat} {o : Obj} (h : Hid (Below w1.heap.size w1 u)) (hv : v = u.alloc o) (hg : g = u.heap.size) : Below u.heap.size u v ∧ v.heap[g]? = some o ∧ w1.heap.size ≤ g ∧ Hid (Below w1.heap.size w1 v) := by
  have hb : Below u.heap.size u v := by rw [hv]; exact al (Below.refl _ _) _
  exact ⟨hb, by rw [hv, hg]; exact heap_alloc_new _ _, by rw [hg]; exact h.out.size, below_next h.out hb⟩
theorem own_new {u : World} {g B n c : Nat} {a : Option Addr} {xs : List UInt8} (hg : g = u.heap.size) (h : Hid (Own u B (.slice a n c) xs)) : ∀ q, a = some q → q.block ≠ g := fun q hq => by have := (own_ltW h.out q hq).2; omega
theorem box_new {u : World} {g L : Nat} {o : Obj} (hg : g = u.heap.size) (h : Hid (u.heap[L]? = some o)) : L ≠ g := by have := (Array.getElem?_eq_some_iff.1 h.out).1; omega
theorem own_old {u v : World} {L n c : Nat} {o : Obj} {a : Option Addr} {xs : List UInt8} (h : Hid (u.heap[L]? = some o)) (hn : Own v u.heap.size (.slice a n c) xs) : ∀ q, a = some q → q.block ≠ L := fun q hq => by have h1 := (own_ltW hn q hq).1; have h2 := (Array.getElem?_eq_some_iff.1 h.out).1; omega
theorem lay1 {u : World} {g : Nat} (h : RdU u (some ⟨g, 0, none⟩) [8, 0]) : Calls Try.prog 34 #[.slice none 0 0, .slice (some ⟨g, 0, none⟩) 2 2] u fun e v => ∃ a c, e = .returned (.slice a 2 c) ∧ Own v u.heap.size (.slice a 2 c) [8, 0] ∧ Below u.heap.size u v := by
  refine (lay_any none 0 [] _ 2 2 [8, 0] rfl _ (Rd.nil _ _) (fun _ => rfl) h (by intro n hn; simp at hn; omega) (by simp) (by simp) (by simp)).mono ?_
  rintro e v ⟨val, rfl, hown, hb⟩
  rw [dgs_80] at hown
  obtain ⟨a, c, hval, -⟩ := hown.val
  obtain rfl : val = .slice a 2 c := hval
  exact ⟨a, c, rfl, hown, hb⟩
theorem lay2 {u : World} {g : Nat} (h : RdU u (some ⟨g, 0, none⟩) [0]) : Calls Try.prog 34 #[.slice none 0 0, .slice (some ⟨g, 0, none⟩) 1 1] u fun e v => ∃ a c, e = .returned (.slice a 1 c) ∧ Own v u.heap.size (.slice a 1 c) [0] ∧ Below u.heap.size u v := by
  refine (lay_any none 0 [] _ 1 1 [0] rfl _ (Rd.nil _ _) (fun _ => rfl) h (by intro n hn; simp at hn; omega) (by simp) (by simp) (by simp)).mono ?_
  rintro e v ⟨val, rfl, hown, hb⟩
  rw [dgs_0] at hown
  obtain ⟨a, c, hval, -⟩ := hown.val
  obtain rfl : val = .slice a 1 c := hval
  exact ⟨a, c, rfl, hown, hb⟩
theorem rowB_two {wx : World} {B Q : Nat} {a1 a2 : Option Addr} {c1 c2 : Nat} (hQ : B ≤ Q) (row : wx.heap[Q]? = some (.cells #[.int .u64 10, .int .u64 2, .int .u64 0, .slice a1 2 c1, .int .u64 7, .int .u64 3, .int .u64 0, .slice a2 1 c2] 37 (0, 0))) (o1 : Own wx B (.slice a1 2 c1) [8, 0]) (o2 : Own wx B (.slice a2 1 c2) [0]) (n1 : ∀ q, a1 = some q → q.block ≠ Q) (n2 : ∀ q, a2 = some q → q.block ≠ Q) :
    RowB wx B (.slice (some ⟨Q, 0, none⟩) 2 2) [⟨10, 2, 0, [8, 0]⟩, ⟨7, 3, 0, [0]⟩] := by
  refine ⟨_, ⟨rfl, .inr ⟨Q, 2, _, rfl, hQ, row, Nat.le_refl _, by simp [maxLen], rfl, rfl⟩⟩, fun j hj => ?_⟩
  have hj2 : j = 0 ∨ j = 1 := by simp at hj; omega
  rcases hj2 with rfl | rfl
  · exact ⟨a1, c1, rfl, rfl, rfl, rfl, o1, own_neW n1⟩
  · exact ⟨a2, c2, rfl, rfl, rfl, rfl, o2, own_neW n2⟩
theorem with_all {P : Program} {md : Region.Mode} {ops : Array Oper} {Q : Exit → Act → World → Prop} {S : World → Prop} {n n' : Nat} {l : Array Bool} {a : Act} {w : World} (hn : n = n') (h : ∀ (O : Array Oper) (R : Exit → Act → World → Prop), Hid (O = ops) → Hid (R = Q) → wpAnyH P md O R S n' l a w) : wpAnyH P md ops Q S n l a w := by
  rw [hn]
  exact h ops Q rfl rfl
theorem wpAnyH_listed {P : Program} {md : Region.Mode} {ops : Array Oper} {Q : Exit → Act → World → Prop} {S : World → Prop} {n : Nat} {l l' : Array Bool} {a : Act} {w : World} (hl : l = l') (h : wpAnyH P md ops Q S n l' a w) : wpAnyH P md ops Q S n l a w := by
  rw [hl]
  exact h
theorem heap_lt {w : World} {g : Nat} {c : Obj} (h : w.heap[g]? = some c) : g < w.heap.size := (Array.getElem?_eq_some_iff.1 h).1
theorem wrap_leaf {w W : World} {tt s fr tm sq lf : Nat} {d : List UInt8} {L Q : Nat} {a1 a2 a3 : Option Addr} {c1 c2 c3 : Nat} (hb : Below w.heap.size w W) (hL : w.heap.size ≤ L) (hQ : w.heap.size ≤ Q)
    (nLQ : L ≠ Q) (box : W.heap[L]? = some (.cells #[.int .u64 0, .int .u64 0, .int .u64 0, .int .u64 0, .int .u64 0, .int .u64 0, .int .u64 0, .int .u64 0, .int .u64 0, .int .u64 0, .slice none 0 0, .slice none 0 0] 34 (0, 0))) (row : W.heap[Q]? = some (.cells #[.int .u64 10, .int .u64 2, .int .u64 0, .slice a1 2 c1, .int .u64 7, .int .u64 3, .int .u64 0, .slice a2 1 c2] 37 (0, 0))) (o1 : Own W w.heap.size (.slice a1 2 c1) [8, 0]) (o2 : Own W w.heap.size (.slice a2 1 c2) [0]) (o3 : Own W w.heap.size (.slice a3 d.length c3) d)
    (n1Q : ∀ q, a1 = some q → q.block ≠ Q) (n2Q : ∀ q, a2 = some q → q.block ≠ Q) (n3Q : ∀ q, a3 = some q → q.block ≠ Q) (n1L : ∀ q, a1 = some q → q.block ≠ L) (n2L : ∀ q, a2 = some q → q.block ≠ L) (n3L : ∀ q, a3 = some q → q.block ≠ L) :
    WrapRel w ((((((((((((W.setCell ⟨L, 0, none⟩ (.int .u64 5)).setCell ⟨L, 1, none⟩ (.int .u64 (tt : Nat))).setCell ⟨L, 2, none⟩ (.int .u64 (s : Nat))).setCell ⟨L, 3, none⟩ (.int .u64 (fr : Nat))).setCell ⟨L, 4, none⟩ (.int .u64 (s : Nat))).setCell ⟨L, 5, none⟩ (.int .u64 (fr : Nat))).setCell ⟨L, 6, none⟩ (.int .u64 0)).setCell ⟨L, 7, none⟩ (.int .u64 (tm : Nat))).setCell ⟨L, 8, none⟩ (.int .u64 (sq : Nat))).setCell ⟨L, 9, none⟩ (.int .u64 (lf : Nat))).setCell ⟨L, 10, none⟩ (.slice (some ⟨Q, 0, none⟩) 2 2)).setCell ⟨L, 11, none⟩ (.slice a3 d.length c3)) tt s fr tm sq lf d L Q a1 a2 a3 c1 c2 c3 :=
  ⟨below_set12 hb hL, hL, hQ, nLQ, heap_set12 box, gr_box gr_set12 (Ne.symm nLQ) row, Own.grown o1 gr_set12 (own_neW n1L), Own.grown o2 gr_set12 (own_neW n2L), Own.grown o3 gr_set12 (own_neW n3L), fun q hq => ⟨n1Q q hq, n1L q hq⟩, fun q hq => ⟨n2Q q hq, n2L q hq⟩, fun q hq => ⟨n3Q q hq, n3L q hq⟩⟩
theorem cells5W {W : World} {g : Nat} {t : TypeId} {v0 v1 v2 v3 v4 : Value} (h : W.heap[g]? = some (.cells #[v0, v1, v2, v3, v4] t (0, 0))) : W.cell? ⟨g, 0, none⟩ = some v0 ∧ W.cell? ⟨g, 1, none⟩ = some v1 ∧ W.cell? ⟨g, 2, none⟩ = some v2 ∧ W.cell? ⟨g, 3, none⟩ = some v3 ∧ W.cell? ⟨g, 4, none⟩ = some v4 ∧ True :=
  ⟨by rw [cell_of_row W g 0 _ t _ h]; rfl, by rw [cell_of_row W g 1 _ t _ h]; rfl, by rw [cell_of_row W g 2 _ t _ h]; rfl, by rw [cell_of_row W g 3 _ t _ h]; rfl, by rw [cell_of_row W g 4 _ t _ h]; rfl, trivial⟩
theorem box5c {W : World} {g : Nat} {t : TypeId} {v0 v1 v2 v3 v4 : Value} (h : W.heap[g]? = some (.cells #[v0, v1, v2, v3, v4] t (0, 0))) : ∀ i v, #[v0, v1, v2, v3, v4][i]? = some v → ∀ u, Below W.heap.size W u → u.cell? ⟨g, i, none⟩ = some v := by
  intro i v hi u hu
  rw [cell_of_row u g i _ t _ (box_on h hu)]
  exact hi
/-- does a frame fit, its data aside -/
abbrev fitF (st : Int) (tm sq lf : Nat) : Prop := 0 ≤ st ∧ st < 8 ∧ tm ≤ 281474976710655 ∧ sq ≤ 281474976710655 ∧ lf ≤ 281474976710655
def wrB (st : Int) (tm sq lf : Nat) (d : List UInt8) (fr tt : Nat) (nw : Bool) : Bun := ⟨if nw = true then 7 else 5, tt, st.toNat, fr, st.toNat, fr, 0, tm, sq, lf, [⟨10, 2, 0, [8, 0]⟩, ⟨7, 3, 0, [0]⟩], d⟩
/-- what Wrap answers -/
def wrapS (st : Int) (tm sq lf : Nat) (d : List UInt8) (fr tt : Nat) (nw : Bool) : Bun × Int :=
  if ¬ (fitF st tm sq lf ∧ fr ≤ 281474976710655 ∧ tt ≤ 281474976710655) then (zeroB, 1) else if 512 < d.length then (zeroB, 81) else (wrB st tm sq lf d fr tt nw, 0)
def WrapOut (w w' : World) (r : Bun × Int) (e : Ending) : Prop :=
  ∃ o a c pa pc n, e = .returned (.tuple #[bunV o a c pa pc, .int .i64 n]) ∧ r = (o, n) ∧ RowB w' w.heap.size (.slice a o.bl.length c) o.bl ∧ Own w' w.heap.size (.slice pa o.py.length pc) o.py ∧ o.ok
end Go.Proofs.Ytdpkommmkcmifaa
namespace Go.Proofs.Ytdpkommmkcmifaa
set_option linter.unusedVariables false
set_option linter.unusedSimpArgs false
open Go.RowKit
set_option maxRecDepth 20000 in
set_option maxHeartbeats 200000000 in
theorem wrap_lo (st : Int) (tm sq lf : Nat) (d : List UInt8) (fa : Option Addr) (fc : Nat) (fr tt : Nat) (nw : Bool) (w : World) (hd : Rd w fa d) (hn : fa = none → fc = 0) (hfit : fitF st tm sq lf) (hfr : fr ≤ 281474976710655) (hto : tt ≤ 281474976710655) (hdl : d.length ≤ 512) :
    Calls Try.prog 15 #[.agg #[.int .i64 st, .int .u64 (tm : Nat), .int .u64 (sq : Nat), .int .u64 (lf : Nat), .slice fa d.length fc], .int .u64 (fr : Nat), .int .u64 (tt : Nat), .bool nw] w fun e w' => WrapOut w w' (wrB st tm sq lf d fr tt nw, 0) e ∧ Below w.heap.size w w' := by
  obtain ⟨h1, h2, h3, h4, h5⟩ := hfit
  obtain ⟨s, hs⟩ : ∃ s : Nat, s = st.toNat := ⟨_, rfl⟩
  have hst : st = (s : Int) := by omega
  have hs8 : s < 8 := by omega
  clear hs h1 h2
  subst hst
  obtain ⟨W0, hW0⟩ : ∃ W0 : World, W0 = (w.alloc (.cells #[.int .i64 (s : Int), .int .u64 (tm : Nat), .int .u64 (sq : Nat), .int .u64 (lf : Nat), .slice fa d.length fc] 47)).alloc (.cells #[.int .u64 0, .int .u64 0, .int .u64 0, .int .u64 0, .int .u64 0, .int .u64 0, .int .u64 0, .int .u64 0, .int .u64 0, .int .u64 0, .slice none 0 0, .slice none 0 0] 34) := ⟨_, rfl⟩
  have hF : W0.heap[w.heap.size]? = some (.cells #[.int .i64 (s : Int), .int .u64 (tm : Nat), .int .u64 (sq : Nat), .int .u64 (lf : Nat), .slice fa d.length fc] 47 (0, 0)) := by rw [hW0]; exact (two_new w _ _).1
  have hR : W0.heap[w.heap.size + 1]? = some (.cells #[.int .u64 0, .int .u64 0, .int .u64 0, .int .u64 0, .int .u64 0, .int .u64 0, .int .u64 0, .int .u64 0, .int .u64 0, .int .u64 0, .slice none 0 0, .slice none 0 0] 34 (0, 0)) := by rw [hW0]; exact (two_new w _ _).2
  have hb0 : Below w.heap.size w W0 := by rw [hW0]; exact al (al (Below.refl _ _) _) _
  have HS0 : Hid (w.heap.size + 1 + 1 = W0.heap.size) := by unfold Hid; rw [hW0]; simp
  have hlt8 : ¬ ((s : Int) < 0) := by omega
  have hge8 : ¬ ((8 : Int) ≤ (s : Int)) := by omega
  have hws : IntKind.u64.wrap (s : Int) = (s : Int) := by rw [IntKind.wrap_u64]; omega
  go_enter Try.func15, Try.ntmps15
  go_wp2_with fail
  rw [← hW0]
  clear hW0
  obtain ⟨W1, hW1⟩ : ∃ W1 : World, W1 = W0.alloc (.cells #[.int .u64 (tm : Nat), .int .u64 (sq : Nat), .int .u64 (lf : Nat), .int .u64 (fr : Nat), .int .u64 (tt : Nat)] 22) := ⟨_, rfl⟩
  rw [← hW1]
  have hb1 : Below W0.heap.size W0 W1 := by rw [hW1]; exact al (Below.refl _ _) _
  have hU : RdU W1 (some ⟨w.heap.size + 1 + 1, 0, none⟩) [tm, sq, lf, fr, tt] := by rw [hW1]; exact rdu_new W0 _ HS0.out _ _ _ _ rfl
  clear hW1
  refine (numbers_any _ 5 5 [tm, sq, lf, fr, tt] W1 rfl hU (by simp)).mono ?_
  rintro e w1 ⟨rfl, hbe⟩
  have hbn : Below W1.heap.size W1 w1 := by rw [hbe]; exact Below.refl _ _
  clear hbe
  have hnum : numsS [tm, sq, lf, fr, tt] = true := by unfold numsS; simp; omega
  rw [hnum]
  have hbw := below_next hb0 (below_next hb1 hbn)
  have hF1 := box_on (box_on hF hb1) hbn
  have hR1 := box_on (box_on hR hb1) hbn
  have HR1 : Hid (w1.heap[w.heap.size + 1]? = some (.cells #[.int .u64 0, .int .u64 0, .int .u64 0, .int .u64 0, .int .u64 0, .int .u64 0, .int .u64 0, .int .u64 0, .int .u64 0, .int .u64 0, .slice none 0 0, .slice none 0 0] 34 (0, 0))) := hR1
  have HRp : Hid (Rd w1 fa d) := hd.below hbw
  have HNp : Hid (fa = none → fc = 0) := hn
  have HPl : Hid (d.length ≤ 512) := hdl
  have HBD : Hid (tm ≤ 281474976710655 ∧ sq ≤ 281474976710655 ∧ lf ≤ 281474976710655 ∧ fr ≤ 281474976710655 ∧ tt ≤ 281474976710655) := ⟨h3, h4, h5, hfr, hto⟩
  have hdI : ¬ ((512 : Int) < (d.length : Int)) := by omega
  obtain ⟨f0, f1, f2, f3, f4, -⟩ := cells5W hF1
  clear hF hR hU hb1 hbn hd hn hnum h3 h4 h5 hfr hto
  go_upto_region 6 with fail
  clear f0 f1 f2 f3 f4
  have hall := box5c hF1
  have p0 := hall 0 _ rfl
  have p1 := hall 1 _ rfl
  have p2 := hall 2 _ rfl
  have p3 := hall 3 _ rfl
  have p4 := hall 4 _ rfl
  clear hall hR1 hdl hdI hlt8 hge8 hws
  go_cut [11] from 44 to 66 (fun p wx => ∃ L Q a1 a2 a3 c1 c2 c3, p = .pointer (some ⟨L, 0, none⟩) ∧ WrapRel w1 wx tt s fr tm sq lf d L Q a1 a2 a3 c1 c2 c3)
  case first =>
    refine wp_region_noPanic ?_
    refine wp_region_held_drew (S := fun u => Below w1.heap.size w1 u) (by kernel_rfl) (Below.refl _ _).drew (fun hHeld => ?_)
    obtain ⟨v0, hv0⟩ : ∃ v0 : World, v0 = w1.drew := ⟨_, rfl⟩
    rw [← hv0] at hHeld ⊢
    have HS0 : Hid (Below w1.heap.size w1 v0) := by rw [hv0]; exact (Below.refl _ _).drew
    clear hv0
    refine with_all (n' := 25) (by kernel_rfl) (fun OPS QQ hO hQ => ?_)
    refine take_at (i := 0) 44 (v := ?_) (by rw [hO.out]; rfl) (by rfl) (by rw [hO.out]; kernel_rfl) (by rw [hO.out]; kernel_rfl) (by rw [hO.out]; kernel_rfl) (fun _ _ _ h => by rw [hQ.out] at h ⊢; exact h) (by rw [hO.out]; rfl) ?_ hHeld ?_
    rotate_left
    · (intro w hSw; (try dsimp only at hSw); go_simp; try with_reducible rfl)
    simp only [Act.put, List.setIfInBounds_toArray, List.set_cons_zero, List.set_cons_succ]
    refine take_at (i := 1) 45 (v := ?_) (by rw [hO.out]; rfl) (by rfl) (by rw [hO.out]; kernel_rfl) (by rw [hO.out]; kernel_rfl) (by rw [hO.out]; kernel_rfl) (fun _ _ _ h => by rw [hQ.out] at h ⊢; exact h) (by rw [hO.out]; rfl) ?_ hHeld ?_
    rotate_left
    · (intro w hSw; (try dsimp only at hSw); go_simp; try with_reducible rfl)
    simp only [Act.put, List.setIfInBounds_toArray, List.set_cons_zero, List.set_cons_succ]
    refine take_at (i := 2) 46 (v := ?_) (by rw [hO.out]; rfl) (by rfl) (by rw [hO.out]; kernel_rfl) (by rw [hO.out]; kernel_rfl) (by rw [hO.out]; kernel_rfl) (fun _ _ _ h => by rw [hQ.out] at h ⊢; exact h) (by rw [hO.out]; rfl) ?_ hHeld ?_
    rotate_left
    · (intro w hSw; (try dsimp only at hSw); go_simp; try with_reducible rfl)
    simp only [Act.put, List.setIfInBounds_toArray, List.set_cons_zero, List.set_cons_succ]
    refine take_at (i := 3) 47 (v := ?_) (by rw [hO.out]; rfl) (by rfl) (by rw [hO.out]; kernel_rfl) (by rw [hO.out]; kernel_rfl) (by rw [hO.out]; kernel_rfl) (fun _ _ _ h => by rw [hQ.out] at h ⊢; exact h) (by rw [hO.out]; rfl) ?_ hHeld ?_
    rotate_left
    · (intro w hSw; (try dsimp only at hSw); go_simp; try with_reducible rfl)
    simp only [Act.put, List.setIfInBounds_toArray, List.set_cons_zero, List.set_cons_succ]
    refine take_at (i := 4) 48 (v := ?_) (by rw [hO.out]; rfl) (by rfl) (by rw [hO.out]; kernel_rfl) (by rw [hO.out]; kernel_rfl) (by rw [hO.out]; kernel_rfl) (fun _ _ _ h => by rw [hQ.out] at h ⊢; exact h) (by rw [hO.out]; rfl) ?_ hHeld ?_
    rotate_left
    · (intro w hSw; (try dsimp only at hSw); go_simp; try with_reducible rfl)
    simp only [Act.put, List.setIfInBounds_toArray, List.set_cons_zero, List.set_cons_succ]
    refine take_at (i := 5) 49 (v := ?_) (by rw [hO.out]; rfl) (by rfl) (by rw [hO.out]; kernel_rfl) (by rw [hO.out]; kernel_rfl) (by rw [hO.out]; kernel_rfl) (fun _ _ _ h => by rw [hQ.out] at h ⊢; exact h) (by rw [hO.out]; rfl) ?_ hHeld ?_
    rotate_left
    · (intro w hSw; (try dsimp only at hSw); go_simp; try with_reducible rfl)
    simp only [Act.put, List.setIfInBounds_toArray, List.set_cons_zero, List.set_cons_succ]
    refine take_at (i := 6) 50 (v := ?_) (by rw [hO.out]; rfl) (by rfl) (by rw [hO.out]; kernel_rfl) (by rw [hO.out]; kernel_rfl) (by rw [hO.out]; kernel_rfl) (fun _ _ _ h => by rw [hQ.out] at h ⊢; exact h) (by rw [hO.out]; rfl) ?_ hHeld ?_
    rotate_left
    · (intro w hSw; (try dsimp only at hSw); go_simp; try with_reducible rfl)
    simp only [Act.put, List.setIfInBounds_toArray, List.set_cons_zero, List.set_cons_succ]
    refine take_at (i := 7) 51 (v := ?_) (by rw [hO.out]; rfl) (by rfl) (by rw [hO.out]; kernel_rfl) (by rw [hO.out]; kernel_rfl) (by rw [hO.out]; kernel_rfl) (fun _ _ _ h => by rw [hQ.out] at h ⊢; exact h) (by rw [hO.out]; rfl) ?_ hHeld ?_
    rotate_left
    · (intro w hSw; (try dsimp only at hSw); go_simp; try with_reducible rfl)
    simp only [Act.put, List.setIfInBounds_toArray, List.set_cons_zero, List.set_cons_succ]
    refine take_at (i := 8) 52 (v := ?_) (by rw [hO.out]; rfl) (by rfl) (by rw [hO.out]; kernel_rfl) (by rw [hO.out]; kernel_rfl) (by rw [hO.out]; kernel_rfl) (fun _ _ _ h => by rw [hQ.out] at h ⊢; exact h) (by rw [hO.out]; rfl) ?_ hHeld ?_
    rotate_left
    · (intro w hSw; (try dsimp only at hSw); go_simp; try with_reducible rfl)
    simp only [Act.put, List.setIfInBounds_toArray, List.set_cons_zero, List.set_cons_succ]
    refine take_at (i := 9) 53 (v := ?_) (by rw [hO.out]; rfl) (by rfl) (by rw [hO.out]; kernel_rfl) (by rw [hO.out]; kernel_rfl) (by rw [hO.out]; kernel_rfl) (fun _ _ _ h => by rw [hQ.out] at h ⊢; exact h) (by rw [hO.out]; rfl) ?_ hHeld ?_
    rotate_left
    · (intro w hSw; (try dsimp only at hSw); go_simp; try with_reducible rfl)
    simp only [Act.put, List.setIfInBounds_toArray, List.set_cons_zero, List.set_cons_succ]
    refine take_at (i := 10) 54 (v := ?_) (by rw [hO.out]; rfl) (by rfl) (by rw [hO.out]; kernel_rfl) (by rw [hO.out]; kernel_rfl) (by rw [hO.out]; kernel_rfl) (fun _ _ _ h => by rw [hQ.out] at h ⊢; exact h) (by rw [hO.out]; rfl) ?_ hHeld ?_
    rotate_left
    · (intro w hSw; (try dsimp only at hSw); go_simp; try with_reducible rfl)
    simp only [Act.put, List.setIfInBounds_toArray, List.set_cons_zero, List.set_cons_succ]
    refine take_at (i := 11) 55 (v := ?_) (by rw [hO.out]; rfl) (by rfl) (by rw [hO.out]; kernel_rfl) (by rw [hO.out]; kernel_rfl) (by rw [hO.out]; kernel_rfl) (fun _ _ _ h => by rw [hQ.out] at h ⊢; exact h) (by rw [hO.out]; rfl) ?_ hHeld ?_
    rotate_left
    · (intro w hSw; (try dsimp only at hSw); go_simp; try with_reducible rfl)
    simp only [Act.put, List.setIfInBounds_toArray, List.set_cons_zero, List.set_cons_succ]
    refine take_at (i := 19) 63 (v := ?_) (by rw [hO.out]; rfl) (by rfl) (by rw [hO.out]; kernel_rfl) (by rw [hO.out]; kernel_rfl) (by rw [hO.out]; kernel_rfl) (fun _ _ _ h => by rw [hQ.out] at h ⊢; exact h) (by rw [hO.out]; rfl) ?_ hHeld ?_
    rotate_left
    · (intro w hSw; (try dsimp only at hSw); go_simp; try with_reducible rfl)
    simp only [Act.put, List.setIfInBounds_toArray, List.set_cons_zero, List.set_cons_succ]
    refine take_at (i := 20) 64 (v := ?_) (by rw [hO.out]; rfl) (by rfl) (by rw [hO.out]; kernel_rfl) (by rw [hO.out]; kernel_rfl) (by rw [hO.out]; kernel_rfl) (fun _ _ _ h => by rw [hQ.out] at h ⊢; exact h) (by rw [hO.out]; rfl) ?_ hHeld ?_
    rotate_left
    · (intro w hSw; (try dsimp only at hSw); go_simp; try with_reducible rfl)
    simp only [Act.put, List.setIfInBounds_toArray, List.set_cons_zero, List.set_cons_succ]
    refine wpAnyH_listed (l' := #[true, true, true, true, true, true, true, true, true, true, true, true, false, false, false, false, false, false, false, true, true, false, false, false, false]) (by kernel_rfl) ?_
    obtain ⟨A, hA⟩ : ∃ A : Value → Value → Value → Value → Value → Value → Value → Value → Value → Value → Act, Hid (A = fun x11 x56 x57 x58 x59 x60 x61 x62 x65 x66 => { tmps := #[Value.agg #[Value.int IntKind.i64 s, Value.int IntKind.u64 tm, Value.int IntKind.u64 sq, Value.int IntKind.u64 lf, Value.slice fa d.length fc], Value.int IntKind.u64 fr, Value.int IntKind.u64 tt, Value.bool nw, Value.pointer (some { block := w.heap.size, off := 0 }), undef, undef, undef, Value.pointer (some { block := w.heap.size + 1, off := 0 }), Value.int IntKind.i64 0, Value.int IntKind.u64 s, x11, Value.pointer (some { block := w.heap.size, off := 0 }), Value.int IntKind.i64 s, Value.bool false, Value.bool false, Value.pointer (some { block := w.heap.size, off := 0 }), Value.int IntKind.i64 s, Value.bool false, Value.bool false, Value.bool false, Value.pointer (some { block := w.heap.size, off := 1 }), Value.pointer (some { block := w.heap.size, off := 1 }), Value.int IntKind.u64 tm, Value.pointer (some { block := w.heap.size, off := 1 }), Value.pointer (some { block := w.heap.size, off := 2 }), Value.int IntKind.u64 sq, Value.pointer (some { block := w.heap.size, off := 3 }), Value.int IntKind.u64 lf, Value.int IntKind.u64 fr, Value.int IntKind.u64 tt, Value.slice (some { block := w.heap.size + 1 + 1, off := 0 }) 5 5, Value.bool true, Value.bool false, Value.bool false, undef, Value.pointer (some { block := w.heap.size, off := 4 }), Value.slice fa d.length fc, Value.int IntKind.i64 (d.length : Int), Value.bool (decide (512 < (d.length : Int))), undef, Value.pointer (some { block := w.heap.size, off := 0 }), Value.int IntKind.i64 s, Value.int IntKind.u64 s, Value.int IntKind.u64 tt, Value.int IntKind.u64 s, Value.agg #[Value.int IntKind.u64 tt, Value.int IntKind.u64 s], Value.int IntKind.u64 fr, Value.int IntKind.u64 s, Value.agg #[Value.int IntKind.u64 fr, Value.int IntKind.u64 s], Value.int IntKind.u64 fr, Value.agg #[Value.int IntKind.u64 fr, Value.int IntKind.u64 0], Value.pointer (some { block := w.heap.size, off := 1 }), Value.agg #[Value.int IntKind.u64 tm, Value.int IntKind.u64 sq], Value.pointer (some { block := w.heap.size, off := 3 }), Value.int IntKind.u64 lf, x56, x57, x58, x59, x60, x61, x62, Value.pointer (some { block := w.heap.size, off := 4 }), Value.slice fa d.length fc, x65, x66, undef, undef, undef, undef, undef, undef], defers := [] }) := ⟨_, rfl⟩
    clear hHeld
    have keyabcdefg : ∀ (v : World) (HS : Hid (Below w1.heap.size w1 v)) (g1 : Nat) (g2 : Nat) (a1 : Option Addr) (c1 : Nat) (G1 : Hid (Own v w1.heap.size (.slice a1 2 c1) [8, 0])) (a2 : Option Addr) (c2 : Nat) (G2 : Hid (Own v w1.heap.size (.slice a2 1 c2) [0])) (a3 : Option Addr) (c3 : Nat) (G3 : Hid (Own v w1.heap.size (.slice a3 d.length c3) d)) (Q : Nat) (hQQ : w1.heap.size ≤ Q) (HQ : Hid (v.heap[Q]? = some (.cells #[.int .u64 10, .int .u64 2, .int .u64 0, .slice a1 2 c1, .int .u64 7, .int .u64 3, .int .u64 0, .slice a2 1 c2] 37 (0, 0)))) (n1Q : ∀ q, a1 = some q → q.block ≠ Q) (n2Q : ∀ q, a2 = some q → q.block ≠ Q) (n3Q : ∀ q, a3 = some q → q.block ≠ Q) (L : Nat) (hLL : w1.heap.size ≤ L) (HL : Hid (v.heap[L]? = some (.cells #[.int .u64 0, .int .u64 0, .int .u64 0, .int .u64 0, .int .u64 0, .int .u64 0, .int .u64 0, .int .u64 0, .int .u64 0, .int .u64 0, .slice none 0 0, .slice none 0 0] 34 (0, 0)))) (n1L : ∀ q, a1 = some q → q.block ≠ L) (n2L : ∀ q, a2 = some q → q.block ≠ L) (n3L : ∀ q, a3 = some q → q.block ≠ L) (nLQ : L ≠ Q), wpAnyH Try.prog Region.Mode.any OPS QQ (fun u => Below w1.heap.size w1 u) 1 #[true, true, true, true, true, true, true, true, true, true, true, true, true, true, true, true, true, true, true, true, true, true, true, true, false] (A (.pointer (some ⟨L, 0, none⟩)) (.slice (some ⟨g1, 0, none⟩) 2 2) (.slice a1 2 c1) (.agg #[.int .u64 10, .int .u64 2, .int .u64 0, .slice a1 2 c1]) (.slice (some ⟨g2, 0, none⟩) 1 1) (.slice a2 1 c2) (.agg #[.int .u64 7, .int .u64 3, .int .u64 0, .slice a2 1 c2]) (.slice (some ⟨Q, 0, none⟩) 2 2) (.slice a3 d.length c3) (.agg #[.int .u64 5, .int .u64 (tt : Nat), .int .u64 (s : Nat), .int .u64 (fr : Nat), .int .u64 (s : Nat), .int .u64 (fr : Nat), .int .u64 0, .int .u64 (tm : Nat), .int .u64 (sq : Nat), .int .u64 (lf : Nat), .slice (some ⟨Q, 0, none⟩) 2 2, .slice a3 d.length c3])) v := by
      intro v HS g1 g2 a1 c1 G1 a2 c2 G2 a3 c3 G3 Q hQQ HQ n1Q n2Q n3Q L hLL HL n1L n2L n3L nLQ
      rw [hA.out]
      dsimp only
      have hHeld := HS.out
      refine run_at (i := 24) (by rw [hO.out]; rfl) (by rw [hO.out]; kernel_rfl) (by rw [hO.out]; rfl) (fun K hK => ?_)
      simp only [List.getElem_toArray, List.getElem_cons_zero, List.getElem_cons_succ]
      obtain ⟨k0, k1, k2, k3, k4, k5, k6, k7, k8, k9, k10, k11, kz0, kz1, kz2, kz3, kz4, kz5, kz6, kz7, kz8, kz9, kz10, kz11⟩ := cells12 HL.out
      have HREL : Hid _ := wrap_leaf (tt := tt) (s := s) (fr := fr) (tm := tm) (sq := sq) (lf := lf) HS.out hLL hQQ nLQ HL.out HQ.out G1.out G2.out G3.out n1Q n2Q n3Q n1L n2L n3L
      go_simp
      go_wp2_with fail
      refine hK.out _ _ HREL.out.bel ?_
      clear hK K
      intro _
      refine wpAnyH_done (by rw [hO.out]; kernel_rfl) ?_ _
      rw [hQ.out]
      refine NoPanic.normal ?_
      go_wp2_with fail
      go_meet
      exact ⟨L, Q, a1, a2, a3, c1, c2, c3, rfl, HREL.out⟩
    have keyabcdef : ∀ (v : World) (HS : Hid (Below w1.heap.size w1 v)) (g1 : Nat) (g2 : Nat) (a1 : Option Addr) (c1 : Nat) (G1 : Hid (Own v w1.heap.size (.slice a1 2 c1) [8, 0])) (a2 : Option Addr) (c2 : Nat) (G2 : Hid (Own v w1.heap.size (.slice a2 1 c2) [0])) (a3 : Option Addr) (c3 : Nat) (G3 : Hid (Own v w1.heap.size (.slice a3 d.length c3) d)) (Q : Nat) (hQQ : w1.heap.size ≤ Q) (HQ : Hid (v.heap[Q]? = some (.cells #[.int .u64 10, .int .u64 2, .int .u64 0, .slice a1 2 c1, .int .u64 7, .int .u64 3, .int .u64 0, .slice a2 1 c2] 37 (0, 0)))) (n1Q : ∀ q, a1 = some q → q.block ≠ Q) (n2Q : ∀ q, a2 = some q → q.block ≠ Q) (n3Q : ∀ q, a3 = some q → q.block ≠ Q), wpAnyH Try.prog Region.Mode.any OPS QQ (fun u => Below w1.heap.size w1 u) 2 #[true, true, true, true, true, true, true, true, true, true, true, true, true, true, true, true, true, true, true, true, true, true, true, false, false] (A undef (.slice (some ⟨g1, 0, none⟩) 2 2) (.slice a1 2 c1) (.agg #[.int .u64 10, .int .u64 2, .int .u64 0, .slice a1 2 c1]) (.slice (some ⟨g2, 0, none⟩) 1 1) (.slice a2 1 c2) (.agg #[.int .u64 7, .int .u64 3, .int .u64 0, .slice a2 1 c2]) (.slice (some ⟨Q, 0, none⟩) 2 2) (.slice a3 d.length c3) (.agg #[.int .u64 5, .int .u64 (tt : Nat), .int .u64 (s : Nat), .int .u64 (fr : Nat), .int .u64 (s : Nat), .int .u64 (fr : Nat), .int .u64 0, .int .u64 (tm : Nat), .int .u64 (sq : Nat), .int .u64 (lf : Nat), .slice (some ⟨Q, 0, none⟩) 2 2, .slice a3 d.length c3])) v := by
      intro v HS g1 g2 a1 c1 G1 a2 c2 G2 a3 c3 G3 Q hQQ HQ n1Q n2Q n3Q
      rw [hA.out]
      dsimp only
      have hHeld := HS.out
      refine run_at (i := 23) (by rw [hO.out]; rfl) (by rw [hO.out]; kernel_rfl) (by rw [hO.out]; rfl) (fun K hK => ?_)
      simp only [List.getElem_toArray, List.getElem_cons_zero, List.getElem_cons_succ]
      go_simp
      go_wp2_with fail
      obtain ⟨v2, hv⟩ : ∃ u : World, u = v.alloc (.cells #[.int .u64 0, .int .u64 0, .int .u64 0, .int .u64 0, .int .u64 0, .int .u64 0, .int .u64 0, .int .u64 0, .int .u64 0, .int .u64 0, .slice none 0 0, .slice none 0 0] 34) := ⟨_, rfl⟩
      rw [← hv]
      obtain ⟨L, hg⟩ : ∃ u, u = v.heap.size := ⟨_, rfl⟩
      rw [← hg]
      obtain ⟨hb, hnew, hLL, HS2⟩ := alloc_facts HS hv hg
      have n1L := own_new hg G1
      have n2L := own_new hg G2
      have n3L := own_new hg G3
      have nLQ := Ne.symm (box_new hg HQ)
      have HL : Hid _ := hnew
      have G1 : Hid (Own v2 w1.heap.size (.slice a1 2 c1) [8, 0]) := Own.below G1.out hb
      have G2 : Hid (Own v2 w1.heap.size (.slice a2 1 c2) [0]) := Own.below G2.out hb
      have G3 : Hid (Own v2 w1.heap.size (.slice a3 d.length c3) d) := Own.below G3.out hb
      have HQ : Hid (v2.heap[Q]? = some (.cells #[.int .u64 10, .int .u64 2, .int .u64 0, .slice a1 2 c1, .int .u64 7, .int .u64 3, .int .u64 0, .slice a2 1 c2] 37 (0, 0))) := box_on HQ.out hb
      clear hv hg hnew hb
      refine hK.out _ _ HS2.out ?_
      clear hK K hHeld
      intro hHeld
      try simp only [Act.put, List.setIfInBounds_toArray, List.set_cons_zero, List.set_cons_succ]
      refine wpAnyH_listed (l' := #[true, true, true, true, true, true, true, true, true, true, true, true, true, true, true, true, true, true, true, true, true, true, true, true, false]) (by kernel_rfl) ?_
      have hfin := keyabcdefg v2 HS2 g1 g2 a1 c1 G1 a2 c2 G2 a3 c3 G3 Q hQQ HQ n1Q n2Q n3Q L hLL HL n1L n2L n3L nLQ
      rw [hA.out] at hfin
      exact hfin
    have keyabcdeg : ∀ (v : World) (HS : Hid (Below w1.heap.size w1 v)) (g1 : Nat) (g2 : Nat) (a1 : Option Addr) (c1 : Nat) (G1 : Hid (Own v w1.heap.size (.slice a1 2 c1) [8, 0])) (a2 : Option Addr) (c2 : Nat) (G2 : Hid (Own v w1.heap.size (.slice a2 1 c2) [0])) (Q : Nat) (hQQ : w1.heap.size ≤ Q) (HQ : Hid (v.heap[Q]? = some (.cells #[.int .u64 10, .int .u64 2, .int .u64 0, .slice a1 2 c1, .int .u64 7, .int .u64 3, .int .u64 0, .slice a2 1 c2] 37 (0, 0)))) (n1Q : ∀ q, a1 = some q → q.block ≠ Q) (n2Q : ∀ q, a2 = some q → q.block ≠ Q) (L : Nat) (hLL : w1.heap.size ≤ L) (HL : Hid (v.heap[L]? = some (.cells #[.int .u64 0, .int .u64 0, .int .u64 0, .int .u64 0, .int .u64 0, .int .u64 0, .int .u64 0, .int .u64 0, .int .u64 0, .int .u64 0, .slice none 0 0, .slice none 0 0] 34 (0, 0)))) (n1L : ∀ q, a1 = some q → q.block ≠ L) (n2L : ∀ q, a2 = some q → q.block ≠ L) (nLQ : L ≠ Q), wpAnyH Try.prog Region.Mode.any OPS QQ (fun u => Below w1.heap.size w1 u) 3 #[true, true, true, true, true, true, true, true, true, true, true, true, true, true, true, true, true, true, true, true, true, false, false, true, false] (A (.pointer (some ⟨L, 0, none⟩)) (.slice (some ⟨g1, 0, none⟩) 2 2) (.slice a1 2 c1) (.agg #[.int .u64 10, .int .u64 2, .int .u64 0, .slice a1 2 c1]) (.slice (some ⟨g2, 0, none⟩) 1 1) (.slice a2 1 c2) (.agg #[.int .u64 7, .int .u64 3, .int .u64 0, .slice a2 1 c2]) (.slice (some ⟨Q, 0, none⟩) 2 2) undef undef) v := by
      intro v HS g1 g2 a1 c1 G1 a2 c2 G2 Q hQQ HQ n1Q n2Q L hLL HL n1L n2L nLQ
      rw [hA.out]
      dsimp only
      have hHeld := HS.out
      refine run_at (i := 21) (by rw [hO.out]; rfl) (by rw [hO.out]; kernel_rfl) (by rw [hO.out]; rfl) (fun K hK => ?_)
      simp only [List.getElem_toArray, List.getElem_cons_zero, List.getElem_cons_succ]
      go_simp
      refine (clone_n fa _ fc d rfl _ (Rd.below HRp.out HS.out) HNp.out (by have := HPl.out; omega)).mono ?_
      rintro e v2 ⟨val, rfl, hown, hb⟩
      obtain ⟨a3, c3, rfl, -⟩ := hown.val
      have n3L := own_old HL hown
      have n3Q := own_old HQ hown
      have G1 : Hid (Own v2 w1.heap.size (.slice a1 2 c1) [8, 0]) := Own.below G1.out hb
      have G2 : Hid (Own v2 w1.heap.size (.slice a2 1 c2) [0]) := Own.below G2.out hb
      have HL : Hid (v2.heap[L]? = some (.cells #[.int .u64 0, .int .u64 0, .int .u64 0, .int .u64 0, .int .u64 0, .int .u64 0, .int .u64 0, .int .u64 0, .int .u64 0, .int .u64 0, .slice none 0 0, .slice none 0 0] 34 (0, 0))) := box_on HL.out hb
      have HQ : Hid (v2.heap[Q]? = some (.cells #[.int .u64 10, .int .u64 2, .int .u64 0, .slice a1 2 c1, .int .u64 7, .int .u64 3, .int .u64 0, .slice a2 1 c2] 37 (0, 0))) := box_on HQ.out hb
      have G3 : Hid (Own v2 w1.heap.size (.slice a3 d.length c3) d) := Own.base hown HS.out.size
      have HS2 : Hid (Below w1.heap.size w1 v2) := below_next HS.out hb
      clear hown hb
      go_wp2_with fail
      refine hK.out _ _ HS2.out ?_
      clear hK K hHeld
      intro hHeld
      try simp only [Act.put, List.setIfInBounds_toArray, List.set_cons_zero, List.set_cons_succ]
      refine take_at (i := 22) 66 (v := ?_) (by rw [hO.out]; rfl) (by rfl) (by rw [hO.out]; kernel_rfl) (by rw [hO.out]; kernel_rfl) (by rw [hO.out]; kernel_rfl) (fun _ _ _ h => by rw [hQ.out] at h ⊢; exact h) (by rw [hO.out]; rfl) ?_ hHeld ?_
      rotate_left
      · (intro w hSw; (try dsimp only at hSw); go_simp; try with_reducible rfl)
      simp only [Act.put, List.setIfInBounds_toArray, List.set_cons_zero, List.set_cons_succ]
      refine wpAnyH_listed (l' := #[true, true, true, true, true, true, true, true, true, true, true, true, true, true, true, true, true, true, true, true, true, true, true, true, false]) (by kernel_rfl) ?_
      have hfin := keyabcdefg v2 HS2 g1 g2 a1 c1 G1 a2 c2 G2 a3 c3 G3 Q hQQ HQ n1Q n2Q n3Q L hLL HL n1L n2L n3L nLQ
      rw [hA.out] at hfin
      exact hfin
    have keyabcdfg : ∀ (v : World) (HS : Hid (Below w1.heap.size w1 v)) (g1 : Nat) (g2 : Nat) (a1 : Option Addr) (c1 : Nat) (G1 : Hid (Own v w1.heap.size (.slice a1 2 c1) [8, 0])) (a2 : Option Addr) (c2 : Nat) (G2 : Hid (Own v w1.heap.size (.slice a2 1 c2) [0])) (a3 : Option Addr) (c3 : Nat) (G3 : Hid (Own v w1.heap.size (.slice a3 d.length c3) d)) (L : Nat) (hLL : w1.heap.size ≤ L) (HL : Hid (v.heap[L]? = some (.cells #[.int .u64 0, .int .u64 0, .int .u64 0, .int .u64 0, .int .u64 0, .int .u64 0, .int .u64 0, .int .u64 0, .int .u64 0, .int .u64 0, .slice none 0 0, .slice none 0 0] 34 (0, 0)))) (n1L : ∀ q, a1 = some q → q.block ≠ L) (n2L : ∀ q, a2 = some q → q.block ≠ L) (n3L : ∀ q, a3 = some q → q.block ≠ L), wpAnyH Try.prog Region.Mode.any OPS QQ (fun u => Below w1.heap.size w1 u) 3 #[true, true, true, true, true, true, true, true, true, true, true, true, true, true, true, true, true, true, false, true, true, true, false, true, false] (A (.pointer (some ⟨L, 0, none⟩)) (.slice (some ⟨g1, 0, none⟩) 2 2) (.slice a1 2 c1) (.agg #[.int .u64 10, .int .u64 2, .int .u64 0, .slice a1 2 c1]) (.slice (some ⟨g2, 0, none⟩) 1 1) (.slice a2 1 c2) (.agg #[.int .u64 7, .int .u64 3, .int .u64 0, .slice a2 1 c2]) undef (.slice a3 d.length c3) undef) v := by
      intro v HS g1 g2 a1 c1 G1 a2 c2 G2 a3 c3 G3 L hLL HL n1L n2L n3L
      rw [hA.out]
      dsimp only
      have hHeld := HS.out
      refine run_at (i := 18) (by rw [hO.out]; rfl) (by rw [hO.out]; kernel_rfl) (by rw [hO.out]; rfl) (fun K hK => ?_)
      simp only [List.getElem_toArray, List.getElem_cons_zero, List.getElem_cons_succ]
      go_simp
      go_wp2_with fail
      obtain ⟨v2, hv⟩ : ∃ u : World, u = v.alloc (.cells #[.int .u64 10, .int .u64 2, .int .u64 0, .slice a1 2 c1, .int .u64 7, .int .u64 3, .int .u64 0, .slice a2 1 c2] 37) := ⟨_, rfl⟩
      rw [← hv]
      obtain ⟨Q, hg⟩ : ∃ u, u = v.heap.size := ⟨_, rfl⟩
      rw [← hg]
      obtain ⟨hb, hnew, hQQ, HS2⟩ := alloc_facts HS hv hg
      have n1Q := own_new hg G1
      have n2Q := own_new hg G2
      have n3Q := own_new hg G3
      have nLQ := box_new hg HL
      have HQ : Hid _ := hnew
      have G1 : Hid (Own v2 w1.heap.size (.slice a1 2 c1) [8, 0]) := Own.below G1.out hb
      have G2 : Hid (Own v2 w1.heap.size (.slice a2 1 c2) [0]) := Own.below G2.out hb
      have G3 : Hid (Own v2 w1.heap.size (.slice a3 d.length c3) d) := Own.below G3.out hb
      have HL : Hid (v2.heap[L]? = some (.cells #[.int .u64 0, .int .u64 0, .int .u64 0, .int .u64 0, .int .u64 0, .int .u64 0, .int .u64 0, .int .u64 0, .int .u64 0, .int .u64 0, .slice none 0 0, .slice none 0 0] 34 (0, 0))) := box_on HL.out hb
      clear hv hg hnew hb
      refine hK.out _ _ HS2.out ?_
      clear hK K hHeld
      intro hHeld
      try simp only [Act.put, List.setIfInBounds_toArray, List.set_cons_zero, List.set_cons_succ]
      refine take_at (i := 22) 66 (v := ?_) (by rw [hO.out]; rfl) (by rfl) (by rw [hO.out]; kernel_rfl) (by rw [hO.out]; kernel_rfl) (by rw [hO.out]; kernel_rfl) (fun _ _ _ h => by rw [hQ.out] at h ⊢; exact h) (by rw [hO.out]; rfl) ?_ hHeld ?_
      rotate_left
      · (intro w hSw; (try dsimp only at hSw); go_simp; try with_reducible rfl)
      simp only [Act.put, List.setIfInBounds_toArray, List.set_cons_zero, List.set_cons_succ]
      refine wpAnyH_listed (l' := #[true, true, true, true, true, true, true, true, true, true, true, true, true, true, true, true, true, true, true, true, true, true, true, true, false]) (by kernel_rfl) ?_
      have hfin := keyabcdefg v2 HS2 g1 g2 a1 c1 G1 a2 c2 G2 a3 c3 G3 Q hQQ HQ n1Q n2Q n3Q L hLL HL n1L n2L n3L nLQ
      rw [hA.out] at hfin
      exact hfin
    have keyabcde : ∀ (v : World) (HS : Hid (Below w1.heap.size w1 v)) (g1 : Nat) (g2 : Nat) (a1 : Option Addr) (c1 : Nat) (G1 : Hid (Own v w1.heap.size (.slice a1 2 c1) [8, 0])) (a2 : Option Addr) (c2 : Nat) (G2 : Hid (Own v w1.heap.size (.slice a2 1 c2) [0])) (Q : Nat) (hQQ : w1.heap.size ≤ Q) (HQ : Hid (v.heap[Q]? = some (.cells #[.int .u64 10, .int .u64 2, .int .u64 0, .slice a1 2 c1, .int .u64 7, .int .u64 3, .int .u64 0, .slice a2 1 c2] 37 (0, 0)))) (n1Q : ∀ q, a1 = some q → q.block ≠ Q) (n2Q : ∀ q, a2 = some q → q.block ≠ Q), wpAnyH Try.prog Region.Mode.any OPS QQ (fun u => Below w1.heap.size w1 u) 4 #[true, true, true, true, true, true, true, true, true, true, true, true, true, true, true, true, true, true, true, true, true, false, false, false, false] (A undef (.slice (some ⟨g1, 0, none⟩) 2 2) (.slice a1 2 c1) (.agg #[.int .u64 10, .int .u64 2, .int .u64 0, .slice a1 2 c1]) (.slice (some ⟨g2, 0, none⟩) 1 1) (.slice a2 1 c2) (.agg #[.int .u64 7, .int .u64 3, .int .u64 0, .slice a2 1 c2]) (.slice (some ⟨Q, 0, none⟩) 2 2) undef undef) v := by
      intro v HS g1 g2 a1 c1 G1 a2 c2 G2 Q hQQ HQ n1Q n2Q
      rw [hA.out]
      dsimp only
      have hHeld := HS.out
      refine wpAnyH_ready (rs := [21, 23]) (by rw [hO.out]; kernel_rfl) (by simp) (AllReadyH.cons (o := _) (by rw [hO.out]; rfl) (fun K hK => ?_) (AllReadyH.cons (o := _) (by rw [hO.out]; rfl) (fun K hK => ?_) AllReadyH.nil))
      · rw [if_pos (by rw [hO.out]; rfl)]
        simp only [List.getElem_toArray, List.getElem_cons_zero, List.getElem_cons_succ]
        go_simp
        refine (clone_n fa _ fc d rfl _ (Rd.below HRp.out HS.out) HNp.out (by have := HPl.out; omega)).mono ?_
        rintro e v2 ⟨val, rfl, hown, hb⟩
        obtain ⟨a3, c3, rfl, -⟩ := hown.val
        have n3Q := own_old HQ hown
        have G1 : Hid (Own v2 w1.heap.size (.slice a1 2 c1) [8, 0]) := Own.below G1.out hb
        have G2 : Hid (Own v2 w1.heap.size (.slice a2 1 c2) [0]) := Own.below G2.out hb
        have HQ : Hid (v2.heap[Q]? = some (.cells #[.int .u64 10, .int .u64 2, .int .u64 0, .slice a1 2 c1, .int .u64 7, .int .u64 3, .int .u64 0, .slice a2 1 c2] 37 (0, 0))) := box_on HQ.out hb
        have G3 : Hid (Own v2 w1.heap.size (.slice a3 d.length c3) d) := Own.base hown HS.out.size
        have HS2 : Hid (Below w1.heap.size w1 v2) := below_next HS.out hb
        clear hown hb
        go_wp2_with fail
        refine hK.out _ _ HS2.out ?_
        clear hK K hHeld
        intro hHeld
        try simp only [Act.put, List.setIfInBounds_toArray, List.set_cons_zero, List.set_cons_succ]
        refine take_at (i := 22) 66 (v := ?_) (by rw [hO.out]; rfl) (by rfl) (by rw [hO.out]; kernel_rfl) (by rw [hO.out]; kernel_rfl) (by rw [hO.out]; kernel_rfl) (fun _ _ _ h => by rw [hQ.out] at h ⊢; exact h) (by rw [hO.out]; rfl) ?_ hHeld ?_
        rotate_left
        · (intro w hSw; (try dsimp only at hSw); go_simp; try with_reducible rfl)
        simp only [Act.put, List.setIfInBounds_toArray, List.set_cons_zero, List.set_cons_succ]
        refine wpAnyH_listed (l' := #[true, true, true, true, true, true, true, true, true, true, true, true, true, true, true, true, true, true, true, true, true, true, true, false, false]) (by kernel_rfl) ?_
        have hfin := keyabcdef v2 HS2 g1 g2 a1 c1 G1 a2 c2 G2 a3 c3 G3 Q hQQ HQ n1Q n2Q n3Q
        rw [hA.out] at hfin
        exact hfin
      · rw [if_pos (by rw [hO.out]; rfl)]
        simp only [List.getElem_toArray, List.getElem_cons_zero, List.getElem_cons_succ]
        go_simp
        go_wp2_with fail
        obtain ⟨v2, hv⟩ : ∃ u : World, u = v.alloc (.cells #[.int .u64 0, .int .u64 0, .int .u64 0, .int .u64 0, .int .u64 0, .int .u64 0, .int .u64 0, .int .u64 0, .int .u64 0, .int .u64 0, .slice none 0 0, .slice none 0 0] 34) := ⟨_, rfl⟩
        rw [← hv]
        obtain ⟨L, hg⟩ : ∃ u, u = v.heap.size := ⟨_, rfl⟩
        rw [← hg]
        obtain ⟨hb, hnew, hLL, HS2⟩ := alloc_facts HS hv hg
        have n1L := own_new hg G1
        have n2L := own_new hg G2
        have nLQ := Ne.symm (box_new hg HQ)
        have HL : Hid _ := hnew
        have G1 : Hid (Own v2 w1.heap.size (.slice a1 2 c1) [8, 0]) := Own.below G1.out hb
        have G2 : Hid (Own v2 w1.heap.size (.slice a2 1 c2) [0]) := Own.below G2.out hb
        have HQ : Hid (v2.heap[Q]? = some (.cells #[.int .u64 10, .int .u64 2, .int .u64 0, .slice a1 2 c1, .int .u64 7, .int .u64 3, .int .u64 0, .slice a2 1 c2] 37 (0, 0))) := box_on HQ.out hb
        clear hv hg hnew hb
        refine hK.out _ _ HS2.out ?_
        clear hK K hHeld
        intro hHeld
        try simp only [Act.put, List.setIfInBounds_toArray, List.set_cons_zero, List.set_cons_succ]
        refine wpAnyH_listed (l' := #[true, true, true, true, true, true, true, true, true, true, true, true, true, true, true, true, true, true, true, true, true, false, false, true, false]) (by kernel_rfl) ?_
        have hfin := keyabcdeg v2 HS2 g1 g2 a1 c1 G1 a2 c2 G2 Q hQQ HQ n1Q n2Q L hLL HL n1L n2L nLQ
        rw [hA.out] at hfin
        exact hfin
    have keyabcdf : ∀ (v : World) (HS : Hid (Below w1.heap.size w1 v)) (g1 : Nat) (g2 : Nat) (a1 : Option Addr) (c1 : Nat) (G1 : Hid (Own v w1.heap.size (.slice a1 2 c1) [8, 0])) (a2 : Option Addr) (c2 : Nat) (G2 : Hid (Own v w1.heap.size (.slice a2 1 c2) [0])) (a3 : Option Addr) (c3 : Nat) (G3 : Hid (Own v w1.heap.size (.slice a3 d.length c3) d)), wpAnyH Try.prog Region.Mode.any OPS QQ (fun u => Below w1.heap.size w1 u) 4 #[true, true, true, true, true, true, true, true, true, true, true, true, true, true, true, true, true, true, false, true, true, true, false, false, false] (A undef (.slice (some ⟨g1, 0, none⟩) 2 2) (.slice a1 2 c1) (.agg #[.int .u64 10, .int .u64 2, .int .u64 0, .slice a1 2 c1]) (.slice (some ⟨g2, 0, none⟩) 1 1) (.slice a2 1 c2) (.agg #[.int .u64 7, .int .u64 3, .int .u64 0, .slice a2 1 c2]) undef (.slice a3 d.length c3) undef) v := by
      intro v HS g1 g2 a1 c1 G1 a2 c2 G2 a3 c3 G3
      rw [hA.out]
      dsimp only
      have hHeld := HS.out
      refine wpAnyH_ready (rs := [18, 23]) (by rw [hO.out]; kernel_rfl) (by simp) (AllReadyH.cons (o := _) (by rw [hO.out]; rfl) (fun K hK => ?_) (AllReadyH.cons (o := _) (by rw [hO.out]; rfl) (fun K hK => ?_) AllReadyH.nil))
      · rw [if_pos (by rw [hO.out]; rfl)]
        simp only [List.getElem_toArray, List.getElem_cons_zero, List.getElem_cons_succ]
        go_simp
        go_wp2_with fail
        obtain ⟨v2, hv⟩ : ∃ u : World, u = v.alloc (.cells #[.int .u64 10, .int .u64 2, .int .u64 0, .slice a1 2 c1, .int .u64 7, .int .u64 3, .int .u64 0, .slice a2 1 c2] 37) := ⟨_, rfl⟩
        rw [← hv]
        obtain ⟨Q, hg⟩ : ∃ u, u = v.heap.size := ⟨_, rfl⟩
        rw [← hg]
        obtain ⟨hb, hnew, hQQ, HS2⟩ := alloc_facts HS hv hg
        have n1Q := own_new hg G1
        have n2Q := own_new hg G2
        have n3Q := own_new hg G3
        have HQ : Hid _ := hnew
        have G1 : Hid (Own v2 w1.heap.size (.slice a1 2 c1) [8, 0]) := Own.below G1.out hb
        have G2 : Hid (Own v2 w1.heap.size (.slice a2 1 c2) [0]) := Own.below G2.out hb
        have G3 : Hid (Own v2 w1.heap.size (.slice a3 d.length c3) d) := Own.below G3.out hb
        clear hv hg hnew hb
        refine hK.out _ _ HS2.out ?_
        clear hK K hHeld
        intro hHeld
        try simp only [Act.put, List.setIfInBounds_toArray, List.set_cons_zero, List.set_cons_succ]
        refine take_at (i := 22) 66 (v := ?_) (by rw [hO.out]; rfl) (by rfl) (by rw [hO.out]; kernel_rfl) (by rw [hO.out]; kernel_rfl) (by rw [hO.out]; kernel_rfl) (fun _ _ _ h => by rw [hQ.out] at h ⊢; exact h) (by rw [hO.out]; rfl) ?_ hHeld ?_
        rotate_left
        · (intro w hSw; (try dsimp only at hSw); go_simp; try with_reducible rfl)
        simp only [Act.put, List.setIfInBounds_toArray, List.set_cons_zero, List.set_cons_succ]
        refine wpAnyH_listed (l' := #[true, true, true, true, true, true, true, true, true, true, true, true, true, true, true, true, true, true, true, true, true, true, true, false, false]) (by kernel_rfl) ?_
        have hfin := keyabcdef v2 HS2 g1 g2 a1 c1 G1 a2 c2 G2 a3 c3 G3 Q hQQ HQ n1Q n2Q n3Q
        rw [hA.out] at hfin
        exact hfin
      · rw [if_pos (by rw [hO.out]; rfl)]
        simp only [List.getElem_toArray, List.getElem_cons_zero, List.getElem_cons_succ]
        go_simp
        go_wp2_with fail
        obtain ⟨v2, hv⟩ : ∃ u : World, u = v.alloc (.cells #[.int .u64 0, .int .u64 0, .int .u64 0, .int .u64 0, .int .u64 0, .int .u64 0, .int .u64 0, .int .u64 0, .int .u64 0, .int .u64 0, .slice none 0 0, .slice none 0 0] 34) := ⟨_, rfl⟩
        rw [← hv]
        obtain ⟨L, hg⟩ : ∃ u, u = v.heap.size := ⟨_, rfl⟩
        rw [← hg]
        obtain ⟨hb, hnew, hLL, HS2⟩ := alloc_facts HS hv hg
        have n1L := own_new hg G1
        have n2L := own_new hg G2
        have n3L := own_new hg G3
        have HL : Hid _ := hnew
        have G1 : Hid (Own v2 w1.heap.size (.slice a1 2 c1) [8, 0]) := Own.below G1.out hb
        have G2 : Hid (Own v2 w1.heap.size (.slice a2 1 c2) [0]) := Own.below G2.out hb
        have G3 : Hid (Own v2 w1.heap.size (.slice a3 d.length c3) d) := Own.below G3.out hb
        clear hv hg hnew hb
        refine hK.out _ _ HS2.out ?_
        clear hK K hHeld
        intro hHeld
        try simp only [Act.put, List.setIfInBounds_toArray, List.set_cons_zero, List.set_cons_succ]
        refine wpAnyH_listed (l' := #[true, true, true, true, true, true, true, true, true, true, true, true, true, true, true, true, true, true, false, true, true, true, false, true, false]) (by kernel_rfl) ?_
        have hfin := keyabcdfg v2 HS2 g1 g2 a1 c1 G1 a2 c2 G2 a3 c3 G3 L hLL HL n1L n2L n3L
        rw [hA.out] at hfin
        exact hfin
    have keyabcdg : ∀ (v : World) (HS : Hid (Below w1.heap.size w1 v)) (g1 : Nat) (g2 : Nat) (a1 : Option Addr) (c1 : Nat) (G1 : Hid (Own v w1.heap.size (.slice a1 2 c1) [8, 0])) (a2 : Option Addr) (c2 : Nat) (G2 : Hid (Own v w1.heap.size (.slice a2 1 c2) [0])) (L : Nat) (hLL : w1.heap.size ≤ L) (HL : Hid (v.heap[L]? = some (.cells #[.int .u64 0, .int .u64 0, .int .u64 0, .int .u64 0, .int .u64 0, .int .u64 0, .int .u64 0, .int .u64 0, .int .u64 0, .int .u64 0, .slice none 0 0, .slice none 0 0] 34 (0, 0)))) (n1L : ∀ q, a1 = some q → q.block ≠ L) (n2L : ∀ q, a2 = some q → q.block ≠ L), wpAnyH Try.prog Region.Mode.any OPS QQ (fun u => Below w1.heap.size w1 u) 4 #[true, true, true, true, true, true, true, true, true, true, true, true, true, true, true, true, true, true, false, true, true, false, false, true, false] (A (.pointer (some ⟨L, 0, none⟩)) (.slice (some ⟨g1, 0, none⟩) 2 2) (.slice a1 2 c1) (.agg #[.int .u64 10, .int .u64 2, .int .u64 0, .slice a1 2 c1]) (.slice (some ⟨g2, 0, none⟩) 1 1) (.slice a2 1 c2) (.agg #[.int .u64 7, .int .u64 3, .int .u64 0, .slice a2 1 c2]) undef undef undef) v := by
      intro v HS g1 g2 a1 c1 G1 a2 c2 G2 L hLL HL n1L n2L
      rw [hA.out]
      dsimp only
      have hHeld := HS.out
      refine wpAnyH_ready (rs := [18, 21]) (by rw [hO.out]; kernel_rfl) (by simp) (AllReadyH.cons (o := _) (by rw [hO.out]; rfl) (fun K hK => ?_) (AllReadyH.cons (o := _) (by rw [hO.out]; rfl) (fun K hK => ?_) AllReadyH.nil))
      · rw [if_pos (by rw [hO.out]; rfl)]
        simp only [List.getElem_toArray, List.getElem_cons_zero, List.getElem_cons_succ]
        go_simp
        go_wp2_with fail
        obtain ⟨v2, hv⟩ : ∃ u : World, u = v.alloc (.cells #[.int .u64 10, .int .u64 2, .int .u64 0, .slice a1 2 c1, .int .u64 7, .int .u64 3, .int .u64 0, .slice a2 1 c2] 37) := ⟨_, rfl⟩
        rw [← hv]
        obtain ⟨Q, hg⟩ : ∃ u, u = v.heap.size := ⟨_, rfl⟩
        rw [← hg]
        obtain ⟨hb, hnew, hQQ, HS2⟩ := alloc_facts HS hv hg
        have n1Q := own_new hg G1
        have n2Q := own_new hg G2
        have nLQ := box_new hg HL
        have HQ : Hid _ := hnew
        have G1 : Hid (Own v2 w1.heap.size (.slice a1 2 c1) [8, 0]) := Own.below G1.out hb
        have G2 : Hid (Own v2 w1.heap.size (.slice a2 1 c2) [0]) := Own.below G2.out hb
        have HL : Hid (v2.heap[L]? = some (.cells #[.int .u64 0, .int .u64 0, .int .u64 0, .int .u64 0, .int .u64 0, .int .u64 0, .int .u64 0, .int .u64 0, .int .u64 0, .int .u64 0, .slice none 0 0, .slice none 0 0] 34 (0, 0))) := box_on HL.out hb
        clear hv hg hnew hb
        refine hK.out _ _ HS2.out ?_
        clear hK K hHeld
        intro hHeld
        try simp only [Act.put, List.setIfInBounds_toArray, List.set_cons_zero, List.set_cons_succ]
        refine wpAnyH_listed (l' := #[true, true, true, true, true, true, true, true, true, true, true, true, true, true, true, true, true, true, true, true, true, false, false, true, false]) (by kernel_rfl) ?_
        have hfin := keyabcdeg v2 HS2 g1 g2 a1 c1 G1 a2 c2 G2 Q hQQ HQ n1Q n2Q L hLL HL n1L n2L nLQ
        rw [hA.out] at hfin
        exact hfin
      · rw [if_pos (by rw [hO.out]; rfl)]
        simp only [List.getElem_toArray, List.getElem_cons_zero, List.getElem_cons_succ]
        go_simp
        refine (clone_n fa _ fc d rfl _ (Rd.below HRp.out HS.out) HNp.out (by have := HPl.out; omega)).mono ?_
        rintro e v2 ⟨val, rfl, hown, hb⟩
        obtain ⟨a3, c3, rfl, -⟩ := hown.val
        have n3L := own_old HL hown
        have G1 : Hid (Own v2 w1.heap.size (.slice a1 2 c1) [8, 0]) := Own.below G1.out hb
        have G2 : Hid (Own v2 w1.heap.size (.slice a2 1 c2) [0]) := Own.below G2.out hb
        have HL : Hid (v2.heap[L]? = some (.cells #[.int .u64 0, .int .u64 0, .int .u64 0, .int .u64 0, .int .u64 0, .int .u64 0, .int .u64 0, .int .u64 0, .int .u64 0, .int .u64 0, .slice none 0 0, .slice none 0 0] 34 (0, 0))) := box_on HL.out hb
        have G3 : Hid (Own v2 w1.heap.size (.slice a3 d.length c3) d) := Own.base hown HS.out.size
        have HS2 : Hid (Below w1.heap.size w1 v2) := below_next HS.out hb
        clear hown hb
        go_wp2_with fail
        refine hK.out _ _ HS2.out ?_
        clear hK K hHeld
        intro hHeld
        try simp only [Act.put, List.setIfInBounds_toArray, List.set_cons_zero, List.set_cons_succ]
        refine wpAnyH_listed (l' := #[true, true, true, true, true, true, true, true, true, true, true, true, true, true, true, true, true, true, false, true, true, true, false, true, false]) (by kernel_rfl) ?_
        have hfin := keyabcdfg v2 HS2 g1 g2 a1 c1 G1 a2 c2 G2 a3 c3 G3 L hLL HL n1L n2L n3L
        rw [hA.out] at hfin
        exact hfin
    have keyabcd : ∀ (v : World) (HS : Hid (Below w1.heap.size w1 v)) (g1 : Nat) (g2 : Nat) (a1 : Option Addr) (c1 : Nat) (G1 : Hid (Own v w1.heap.size (.slice a1 2 c1) [8, 0])) (a2 : Option Addr) (c2 : Nat) (G2 : Hid (Own v w1.heap.size (.slice a2 1 c2) [0])), wpAnyH Try.prog Region.Mode.any OPS QQ (fun u => Below w1.heap.size w1 u) 5 #[true, true, true, true, true, true, true, true, true, true, true, true, true, true, true, true, true, true, false, true, true, false, false, false, false] (A undef (.slice (some ⟨g1, 0, none⟩) 2 2) (.slice a1 2 c1) (.agg #[.int .u64 10, .int .u64 2, .int .u64 0, .slice a1 2 c1]) (.slice (some ⟨g2, 0, none⟩) 1 1) (.slice a2 1 c2) (.agg #[.int .u64 7, .int .u64 3, .int .u64 0, .slice a2 1 c2]) undef undef undef) v := by
      intro v HS g1 g2 a1 c1 G1 a2 c2 G2
      rw [hA.out]
      dsimp only
      have hHeld := HS.out
      refine wpAnyH_ready (rs := [18, 21, 23]) (by rw [hO.out]; kernel_rfl) (by simp) (AllReadyH.cons (o := _) (by rw [hO.out]; rfl) (fun K hK => ?_) (AllReadyH.cons (o := _) (by rw [hO.out]; rfl) (fun K hK => ?_) (AllReadyH.cons (o := _) (by rw [hO.out]; rfl) (fun K hK => ?_) AllReadyH.nil)))
      · rw [if_pos (by rw [hO.out]; rfl)]
        simp only [List.getElem_toArray, List.getElem_cons_zero, List.getElem_cons_succ]
        go_simp
        go_wp2_with fail
        obtain ⟨v2, hv⟩ : ∃ u : World, u = v.alloc (.cells #[.int .u64 10, .int .u64 2, .int .u64 0, .slice a1 2 c1, .int .u64 7, .int .u64 3, .int .u64 0, .slice a2 1 c2] 37) := ⟨_, rfl⟩
        rw [← hv]
        obtain ⟨Q, hg⟩ : ∃ u, u = v.heap.size := ⟨_, rfl⟩
        rw [← hg]
        obtain ⟨hb, hnew, hQQ, HS2⟩ := alloc_facts HS hv hg
        have n1Q := own_new hg G1
        have n2Q := own_new hg G2
        have HQ : Hid _ := hnew
        have G1 : Hid (Own v2 w1.heap.size (.slice a1 2 c1) [8, 0]) := Own.below G1.out hb
        have G2 : Hid (Own v2 w1.heap.size (.slice a2 1 c2) [0]) := Own.below G2.out hb
        clear hv hg hnew hb
        refine hK.out _ _ HS2.out ?_
        clear hK K hHeld
        intro hHeld
        try simp only [Act.put, List.setIfInBounds_toArray, List.set_cons_zero, List.set_cons_succ]
        refine wpAnyH_listed (l' := #[true, true, true, true, true, true, true, true, true, true, true, true, true, true, true, true, true, true, true, true, true, false, false, false, false]) (by kernel_rfl) ?_
        have hfin := keyabcde v2 HS2 g1 g2 a1 c1 G1 a2 c2 G2 Q hQQ HQ n1Q n2Q
        rw [hA.out] at hfin
        exact hfin
      · rw [if_pos (by rw [hO.out]; rfl)]
        simp only [List.getElem_toArray, List.getElem_cons_zero, List.getElem_cons_succ]
        go_simp
        refine (clone_n fa _ fc d rfl _ (Rd.below HRp.out HS.out) HNp.out (by have := HPl.out; omega)).mono ?_
        rintro e v2 ⟨val, rfl, hown, hb⟩
        obtain ⟨a3, c3, rfl, -⟩ := hown.val
        have G1 : Hid (Own v2 w1.heap.size (.slice a1 2 c1) [8, 0]) := Own.below G1.out hb
        have G2 : Hid (Own v2 w1.heap.size (.slice a2 1 c2) [0]) := Own.below G2.out hb
        have G3 : Hid (Own v2 w1.heap.size (.slice a3 d.length c3) d) := Own.base hown HS.out.size
        have HS2 : Hid (Below w1.heap.size w1 v2) := below_next HS.out hb
        clear hown hb
        go_wp2_with fail
        refine hK.out _ _ HS2.out ?_
        clear hK K hHeld
        intro hHeld
        try simp only [Act.put, List.setIfInBounds_toArray, List.set_cons_zero, List.set_cons_succ]
        refine wpAnyH_listed (l' := #[true, true, true, true, true, true, true, true, true, true, true, true, true, true, true, true, true, true, false, true, true, true, false, false, false]) (by kernel_rfl) ?_
        have hfin := keyabcdf v2 HS2 g1 g2 a1 c1 G1 a2 c2 G2 a3 c3 G3
        rw [hA.out] at hfin
        exact hfin
      · rw [if_pos (by rw [hO.out]; rfl)]
        simp only [List.getElem_toArray, List.getElem_cons_zero, List.getElem_cons_succ]
        go_simp
        go_wp2_with fail
        obtain ⟨v2, hv⟩ : ∃ u : World, u = v.alloc (.cells #[.int .u64 0, .int .u64 0, .int .u64 0, .int .u64 0, .int .u64 0, .int .u64 0, .int .u64 0, .int .u64 0, .int .u64 0, .int .u64 0, .slice none 0 0, .slice none 0 0] 34) := ⟨_, rfl⟩
        rw [← hv]
        obtain ⟨L, hg⟩ : ∃ u, u = v.heap.size := ⟨_, rfl⟩
        rw [← hg]
        obtain ⟨hb, hnew, hLL, HS2⟩ := alloc_facts HS hv hg
        have n1L := own_new hg G1
        have n2L := own_new hg G2
        have HL : Hid _ := hnew
        have G1 : Hid (Own v2 w1.heap.size (.slice a1 2 c1) [8, 0]) := Own.below G1.out hb
        have G2 : Hid (Own v2 w1.heap.size (.slice a2 1 c2) [0]) := Own.below G2.out hb
        clear hv hg hnew hb
        refine hK.out _ _ HS2.out ?_
        clear hK K hHeld
        intro hHeld
        try simp only [Act.put, List.setIfInBounds_toArray, List.set_cons_zero, List.set_cons_succ]
        refine wpAnyH_listed (l' := #[true, true, true, true, true, true, true, true, true, true, true, true, true, true, true, true, true, true, false, true, true, false, false, true, false]) (by kernel_rfl) ?_
        have hfin := keyabcdg v2 HS2 g1 g2 a1 c1 G1 a2 c2 G2 L hLL HL n1L n2L
        rw [hA.out] at hfin
        exact hfin
    have keyabcg : ∀ (v : World) (HS : Hid (Below w1.heap.size w1 v)) (g1 : Nat) (g2 : Nat) (F2 : Hid (RdU v (some ⟨g2, 0, none⟩) [0])) (a1 : Option Addr) (c1 : Nat) (G1 : Hid (Own v w1.heap.size (.slice a1 2 c1) [8, 0])) (L : Nat) (hLL : w1.heap.size ≤ L) (HL : Hid (v.heap[L]? = some (.cells #[.int .u64 0, .int .u64 0, .int .u64 0, .int .u64 0, .int .u64 0, .int .u64 0, .int .u64 0, .int .u64 0, .int .u64 0, .int .u64 0, .slice none 0 0, .slice none 0 0] 34 (0, 0)))) (n1L : ∀ q, a1 = some q → q.block ≠ L), wpAnyH Try.prog Region.Mode.any OPS QQ (fun u => Below w1.heap.size w1 u) 6 #[true, true, true, true, true, true, true, true, true, true, true, true, true, true, true, true, false, false, false, true, true, false, false, true, false] (A (.pointer (some ⟨L, 0, none⟩)) (.slice (some ⟨g1, 0, none⟩) 2 2) (.slice a1 2 c1) (.agg #[.int .u64 10, .int .u64 2, .int .u64 0, .slice a1 2 c1]) (.slice (some ⟨g2, 0, none⟩) 1 1) undef undef undef undef undef) v := by
      intro v HS g1 g2 F2 a1 c1 G1 L hLL HL n1L
      rw [hA.out]
      dsimp only
      have hHeld := HS.out
      refine run_at (i := 16) (by rw [hO.out]; rfl) (by rw [hO.out]; kernel_rfl) (by rw [hO.out]; rfl) (fun K hK => ?_)
      simp only [List.getElem_toArray, List.getElem_cons_zero, List.getElem_cons_succ]
      go_simp
      refine (lay2 F2.out).mono ?_
      rintro e v2 ⟨a2, c2, rfl, hown, hb⟩
      have n2L := own_old HL hown
      have F2 : Hid (RdU v2 (some ⟨g2, 0, none⟩) [0]) := RdU.below F2.out hb
      have G1 : Hid (Own v2 w1.heap.size (.slice a1 2 c1) [8, 0]) := Own.below G1.out hb
      have HL : Hid (v2.heap[L]? = some (.cells #[.int .u64 0, .int .u64 0, .int .u64 0, .int .u64 0, .int .u64 0, .int .u64 0, .int .u64 0, .int .u64 0, .int .u64 0, .int .u64 0, .slice none 0 0, .slice none 0 0] 34 (0, 0))) := box_on HL.out hb
      have G2 : Hid (Own v2 w1.heap.size (.slice a2 1 c2) [0]) := Own.base hown HS.out.size
      have HS2 : Hid (Below w1.heap.size w1 v2) := below_next HS.out hb
      clear hown hb
      go_wp2_with fail
      refine hK.out _ _ HS2.out ?_
      clear hK K hHeld
      intro hHeld
      try simp only [Act.put, List.setIfInBounds_toArray, List.set_cons_zero, List.set_cons_succ]
      refine take_at (i := 17) 61 (v := ?_) (by rw [hO.out]; rfl) (by rfl) (by rw [hO.out]; kernel_rfl) (by rw [hO.out]; kernel_rfl) (by rw [hO.out]; kernel_rfl) (fun _ _ _ h => by rw [hQ.out] at h ⊢; exact h) (by rw [hO.out]; rfl) ?_ hHeld ?_
      rotate_left
      · (intro w hSw; (try dsimp only at hSw); go_simp; try with_reducible rfl)
      simp only [Act.put, List.setIfInBounds_toArray, List.set_cons_zero, List.set_cons_succ]
      refine wpAnyH_listed (l' := #[true, true, true, true, true, true, true, true, true, true, true, true, true, true, true, true, true, true, false, true, true, false, false, true, false]) (by kernel_rfl) ?_
      have hfin := keyabcdg v2 HS2 g1 g2 a1 c1 G1 a2 c2 G2 L hLL HL n1L n2L
      rw [hA.out] at hfin
      exact hfin
    have keyabc : ∀ (v : World) (HS : Hid (Below w1.heap.size w1 v)) (g1 : Nat) (g2 : Nat) (F2 : Hid (RdU v (some ⟨g2, 0, none⟩) [0])) (a1 : Option Addr) (c1 : Nat) (G1 : Hid (Own v w1.heap.size (.slice a1 2 c1) [8, 0])), wpAnyH Try.prog Region.Mode.any OPS QQ (fun u => Below w1.heap.size w1 u) 7 #[true, true, true, true, true, true, true, true, true, true, true, true, true, true, true, true, false, false, false, true, true, false, false, false, false] (A undef (.slice (some ⟨g1, 0, none⟩) 2 2) (.slice a1 2 c1) (.agg #[.int .u64 10, .int .u64 2, .int .u64 0, .slice a1 2 c1]) (.slice (some ⟨g2, 0, none⟩) 1 1) undef undef undef undef undef) v := by
      intro v HS g1 g2 F2 a1 c1 G1
      rw [hA.out]
      dsimp only
      have hHeld := HS.out
      refine wpAnyH_ready (rs := [16, 23]) (by rw [hO.out]; kernel_rfl) (by simp) (AllReadyH.cons (o := _) (by rw [hO.out]; rfl) (fun K hK => ?_) (AllReadyH.cons (o := _) (by rw [hO.out]; rfl) (fun K hK => ?_) AllReadyH.nil))
      · rw [if_pos (by rw [hO.out]; rfl)]
        simp only [List.getElem_toArray, List.getElem_cons_zero, List.getElem_cons_succ]
        go_simp
        refine (lay2 F2.out).mono ?_
        rintro e v2 ⟨a2, c2, rfl, hown, hb⟩
        have F2 : Hid (RdU v2 (some ⟨g2, 0, none⟩) [0]) := RdU.below F2.out hb
        have G1 : Hid (Own v2 w1.heap.size (.slice a1 2 c1) [8, 0]) := Own.below G1.out hb
        have G2 : Hid (Own v2 w1.heap.size (.slice a2 1 c2) [0]) := Own.base hown HS.out.size
        have HS2 : Hid (Below w1.heap.size w1 v2) := below_next HS.out hb
        clear hown hb
        go_wp2_with fail
        refine hK.out _ _ HS2.out ?_
        clear hK K hHeld
        intro hHeld
        try simp only [Act.put, List.setIfInBounds_toArray, List.set_cons_zero, List.set_cons_succ]
        refine take_at (i := 17) 61 (v := ?_) (by rw [hO.out]; rfl) (by rfl) (by rw [hO.out]; kernel_rfl) (by rw [hO.out]; kernel_rfl) (by rw [hO.out]; kernel_rfl) (fun _ _ _ h => by rw [hQ.out] at h ⊢; exact h) (by rw [hO.out]; rfl) ?_ hHeld ?_
        rotate_left
        · (intro w hSw; (try dsimp only at hSw); go_simp; try with_reducible rfl)
        simp only [Act.put, List.setIfInBounds_toArray, List.set_cons_zero, List.set_cons_succ]
        refine wpAnyH_listed (l' := #[true, true, true, true, true, true, true, true, true, true, true, true, true, true, true, true, true, true, false, true, true, false, false, false, false]) (by kernel_rfl) ?_
        have hfin := keyabcd v2 HS2 g1 g2 a1 c1 G1 a2 c2 G2
        rw [hA.out] at hfin
        exact hfin
      · rw [if_pos (by rw [hO.out]; rfl)]
        simp only [List.getElem_toArray, List.getElem_cons_zero, List.getElem_cons_succ]
        go_simp
        go_wp2_with fail
        obtain ⟨v2, hv⟩ : ∃ u : World, u = v.alloc (.cells #[.int .u64 0, .int .u64 0, .int .u64 0, .int .u64 0, .int .u64 0, .int .u64 0, .int .u64 0, .int .u64 0, .int .u64 0, .int .u64 0, .slice none 0 0, .slice none 0 0] 34) := ⟨_, rfl⟩
        rw [← hv]
        obtain ⟨L, hg⟩ : ∃ u, u = v.heap.size := ⟨_, rfl⟩
        rw [← hg]
        obtain ⟨hb, hnew, hLL, HS2⟩ := alloc_facts HS hv hg
        have n1L := own_new hg G1
        have HL : Hid _ := hnew
        have F2 : Hid (RdU v2 (some ⟨g2, 0, none⟩) [0]) := RdU.below F2.out hb
        have G1 : Hid (Own v2 w1.heap.size (.slice a1 2 c1) [8, 0]) := Own.below G1.out hb
        clear hv hg hnew hb
        refine hK.out _ _ HS2.out ?_
        clear hK K hHeld
        intro hHeld
        try simp only [Act.put, List.setIfInBounds_toArray, List.set_cons_zero, List.set_cons_succ]
        refine wpAnyH_listed (l' := #[true, true, true, true, true, true, true, true, true, true, true, true, true, true, true, true, false, false, false, true, true, false, false, true, false]) (by kernel_rfl) ?_
        have hfin := keyabcg v2 HS2 g1 g2 F2 a1 c1 G1 L hLL HL n1L
        rw [hA.out] at hfin
        exact hfin
    have keyabg : ∀ (v : World) (HS : Hid (Below w1.heap.size w1 v)) (g1 : Nat) (a1 : Option Addr) (c1 : Nat) (G1 : Hid (Own v w1.heap.size (.slice a1 2 c1) [8, 0])) (L : Nat) (hLL : w1.heap.size ≤ L) (HL : Hid (v.heap[L]? = some (.cells #[.int .u64 0, .int .u64 0, .int .u64 0, .int .u64 0, .int .u64 0, .int .u64 0, .int .u64 0, .int .u64 0, .int .u64 0, .int .u64 0, .slice none 0 0, .slice none 0 0] 34 (0, 0)))) (n1L : ∀ q, a1 = some q → q.block ≠ L), wpAnyH Try.prog Region.Mode.any OPS QQ (fun u => Below w1.heap.size w1 u) 7 #[true, true, true, true, true, true, true, true, true, true, true, true, true, true, true, false, false, false, false, true, true, false, false, true, false] (A (.pointer (some ⟨L, 0, none⟩)) (.slice (some ⟨g1, 0, none⟩) 2 2) (.slice a1 2 c1) (.agg #[.int .u64 10, .int .u64 2, .int .u64 0, .slice a1 2 c1]) undef undef undef undef undef undef) v := by
      intro v HS g1 a1 c1 G1 L hLL HL n1L
      rw [hA.out]
      dsimp only
      have hHeld := HS.out
      refine run_at (i := 15) (by rw [hO.out]; rfl) (by rw [hO.out]; kernel_rfl) (by rw [hO.out]; rfl) (fun K hK => ?_)
      simp only [List.getElem_toArray, List.getElem_cons_zero, List.getElem_cons_succ]
      go_simp
      go_wp2_with fail
      obtain ⟨v2, hv⟩ : ∃ u : World, u = v.alloc (.cells #[.int .u64 0] 22) := ⟨_, rfl⟩
      rw [← hv]
      obtain ⟨g2, hg⟩ : ∃ u, u = v.heap.size := ⟨_, rfl⟩
      rw [← hg]
      obtain ⟨hb, hnew, hg2, HS2⟩ := alloc_facts HS hv hg
      have F2 : Hid (RdU v2 (some ⟨g2, 0, none⟩) [0]) := by rw [hv]; exact rdu_new _ _ hg _ _ _ _ rfl
      have G1 : Hid (Own v2 w1.heap.size (.slice a1 2 c1) [8, 0]) := Own.below G1.out hb
      have HL : Hid (v2.heap[L]? = some (.cells #[.int .u64 0, .int .u64 0, .int .u64 0, .int .u64 0, .int .u64 0, .int .u64 0, .int .u64 0, .int .u64 0, .int .u64 0, .int .u64 0, .slice none 0 0, .slice none 0 0] 34 (0, 0))) := box_on HL.out hb
      clear hv hg hnew hb
      refine hK.out _ _ HS2.out ?_
      clear hK K hHeld
      intro hHeld
      try simp only [Act.put, List.setIfInBounds_toArray, List.set_cons_zero, List.set_cons_succ]
      refine wpAnyH_listed (l' := #[true, true, true, true, true, true, true, true, true, true, true, true, true, true, true, true, false, false, false, true, true, false, false, true, false]) (by kernel_rfl) ?_
      have hfin := keyabcg v2 HS2 g1 g2 F2 a1 c1 G1 L hLL HL n1L
      rw [hA.out] at hfin
      exact hfin
    have keyacg : ∀ (v : World) (HS : Hid (Below w1.heap.size w1 v)) (g1 : Nat) (F1 : Hid (RdU v (some ⟨g1, 0, none⟩) [8, 0])) (g2 : Nat) (F2 : Hid (RdU v (some ⟨g2, 0, none⟩) [0])) (L : Nat) (hLL : w1.heap.size ≤ L) (HL : Hid (v.heap[L]? = some (.cells #[.int .u64 0, .int .u64 0, .int .u64 0, .int .u64 0, .int .u64 0, .int .u64 0, .int .u64 0, .int .u64 0, .int .u64 0, .int .u64 0, .slice none 0 0, .slice none 0 0] 34 (0, 0)))), wpAnyH Try.prog Region.Mode.any OPS QQ (fun u => Below w1.heap.size w1 u) 8 #[true, true, true, true, true, true, true, true, true, true, true, true, true, false, false, true, false, false, false, true, true, false, false, true, false] (A (.pointer (some ⟨L, 0, none⟩)) (.slice (some ⟨g1, 0, none⟩) 2 2) undef undef (.slice (some ⟨g2, 0, none⟩) 1 1) undef undef undef undef undef) v := by
      intro v HS g1 F1 g2 F2 L hLL HL
      rw [hA.out]
      dsimp only
      have hHeld := HS.out
      refine run_at (i := 13) (by rw [hO.out]; rfl) (by rw [hO.out]; kernel_rfl) (by rw [hO.out]; rfl) (fun K hK => ?_)
      simp only [List.getElem_toArray, List.getElem_cons_zero, List.getElem_cons_succ]
      go_simp
      refine (lay1 F1.out).mono ?_
      rintro e v2 ⟨a1, c1, rfl, hown, hb⟩
      have n1L := own_old HL hown
      have F1 : Hid (RdU v2 (some ⟨g1, 0, none⟩) [8, 0]) := RdU.below F1.out hb
      have F2 : Hid (RdU v2 (some ⟨g2, 0, none⟩) [0]) := RdU.below F2.out hb
      have HL : Hid (v2.heap[L]? = some (.cells #[.int .u64 0, .int .u64 0, .int .u64 0, .int .u64 0, .int .u64 0, .int .u64 0, .int .u64 0, .int .u64 0, .int .u64 0, .int .u64 0, .slice none 0 0, .slice none 0 0] 34 (0, 0))) := box_on HL.out hb
      have G1 : Hid (Own v2 w1.heap.size (.slice a1 2 c1) [8, 0]) := Own.base hown HS.out.size
      have HS2 : Hid (Below w1.heap.size w1 v2) := below_next HS.out hb
      clear hown hb
      go_wp2_with fail
      refine hK.out _ _ HS2.out ?_
      clear hK K hHeld
      intro hHeld
      try simp only [Act.put, List.setIfInBounds_toArray, List.set_cons_zero, List.set_cons_succ]
      refine take_at (i := 14) 58 (v := ?_) (by rw [hO.out]; rfl) (by rfl) (by rw [hO.out]; kernel_rfl) (by rw [hO.out]; kernel_rfl) (by rw [hO.out]; kernel_rfl) (fun _ _ _ h => by rw [hQ.out] at h ⊢; exact h) (by rw [hO.out]; rfl) ?_ hHeld ?_
      rotate_left
      · (intro w hSw; (try dsimp only at hSw); go_simp; try with_reducible rfl)
      simp only [Act.put, List.setIfInBounds_toArray, List.set_cons_zero, List.set_cons_succ]
      refine wpAnyH_listed (l' := #[true, true, true, true, true, true, true, true, true, true, true, true, true, true, true, true, false, false, false, true, true, false, false, true, false]) (by kernel_rfl) ?_
      have hfin := keyabcg v2 HS2 g1 g2 F2 a1 c1 G1 L hLL HL n1L
      rw [hA.out] at hfin
      exact hfin
    have keyab : ∀ (v : World) (HS : Hid (Below w1.heap.size w1 v)) (g1 : Nat) (a1 : Option Addr) (c1 : Nat) (G1 : Hid (Own v w1.heap.size (.slice a1 2 c1) [8, 0])), wpAnyH Try.prog Region.Mode.any OPS QQ (fun u => Below w1.heap.size w1 u) 8 #[true, true, true, true, true, true, true, true, true, true, true, true, true, true, true, false, false, false, false, true, true, false, false, false, false] (A undef (.slice (some ⟨g1, 0, none⟩) 2 2) (.slice a1 2 c1) (.agg #[.int .u64 10, .int .u64 2, .int .u64 0, .slice a1 2 c1]) undef undef undef undef undef undef) v := by
      intro v HS g1 a1 c1 G1
      rw [hA.out]
      dsimp only
      have hHeld := HS.out
      refine wpAnyH_ready (rs := [15, 23]) (by rw [hO.out]; kernel_rfl) (by simp) (AllReadyH.cons (o := _) (by rw [hO.out]; rfl) (fun K hK => ?_) (AllReadyH.cons (o := _) (by rw [hO.out]; rfl) (fun K hK => ?_) AllReadyH.nil))
      · rw [if_pos (by rw [hO.out]; rfl)]
        simp only [List.getElem_toArray, List.getElem_cons_zero, List.getElem_cons_succ]
        go_simp
        go_wp2_with fail
        obtain ⟨v2, hv⟩ : ∃ u : World, u = v.alloc (.cells #[.int .u64 0] 22) := ⟨_, rfl⟩
        rw [← hv]
        obtain ⟨g2, hg⟩ : ∃ u, u = v.heap.size := ⟨_, rfl⟩
        rw [← hg]
        obtain ⟨hb, hnew, hg2, HS2⟩ := alloc_facts HS hv hg
        have F2 : Hid (RdU v2 (some ⟨g2, 0, none⟩) [0]) := by rw [hv]; exact rdu_new _ _ hg _ _ _ _ rfl
        have G1 : Hid (Own v2 w1.heap.size (.slice a1 2 c1) [8, 0]) := Own.below G1.out hb
        clear hv hg hnew hb
        refine hK.out _ _ HS2.out ?_
        clear hK K hHeld
        intro hHeld
        try simp only [Act.put, List.setIfInBounds_toArray, List.set_cons_zero, List.set_cons_succ]
        refine wpAnyH_listed (l' := #[true, true, true, true, true, true, true, true, true, true, true, true, true, true, true, true, false, false, false, true, true, false, false, false, false]) (by kernel_rfl) ?_
        have hfin := keyabc v2 HS2 g1 g2 F2 a1 c1 G1
        rw [hA.out] at hfin
        exact hfin
      · rw [if_pos (by rw [hO.out]; rfl)]
        simp only [List.getElem_toArray, List.getElem_cons_zero, List.getElem_cons_succ]
        go_simp
        go_wp2_with fail
        obtain ⟨v2, hv⟩ : ∃ u : World, u = v.alloc (.cells #[.int .u64 0, .int .u64 0, .int .u64 0, .int .u64 0, .int .u64 0, .int .u64 0, .int .u64 0, .int .u64 0, .int .u64 0, .int .u64 0, .slice none 0 0, .slice none 0 0] 34) := ⟨_, rfl⟩
        rw [← hv]
        obtain ⟨L, hg⟩ : ∃ u, u = v.heap.size := ⟨_, rfl⟩
        rw [← hg]
        obtain ⟨hb, hnew, hLL, HS2⟩ := alloc_facts HS hv hg
        have n1L := own_new hg G1
        have HL : Hid _ := hnew
        have G1 : Hid (Own v2 w1.heap.size (.slice a1 2 c1) [8, 0]) := Own.below G1.out hb
        clear hv hg hnew hb
        refine hK.out _ _ HS2.out ?_
        clear hK K hHeld
        intro hHeld
        try simp only [Act.put, List.setIfInBounds_toArray, List.set_cons_zero, List.set_cons_succ]
        refine wpAnyH_listed (l' := #[true, true, true, true, true, true, true, true, true, true, true, true, true, true, true, false, false, false, false, true, true, false, false, true, false]) (by kernel_rfl) ?_
        have hfin := keyabg v2 HS2 g1 a1 c1 G1 L hLL HL n1L
        rw [hA.out] at hfin
        exact hfin
    have keyac : ∀ (v : World) (HS : Hid (Below w1.heap.size w1 v)) (g1 : Nat) (F1 : Hid (RdU v (some ⟨g1, 0, none⟩) [8, 0])) (g2 : Nat) (F2 : Hid (RdU v (some ⟨g2, 0, none⟩) [0])), wpAnyH Try.prog Region.Mode.any OPS QQ (fun u => Below w1.heap.size w1 u) 9 #[true, true, true, true, true, true, true, true, true, true, true, true, true, false, false, true, false, false, false, true, true, false, false, false, false] (A undef (.slice (some ⟨g1, 0, none⟩) 2 2) undef undef (.slice (some ⟨g2, 0, none⟩) 1 1) undef undef undef undef undef) v := by
      intro v HS g1 F1 g2 F2
      rw [hA.out]
      dsimp only
      have hHeld := HS.out
      refine wpAnyH_ready (rs := [13, 23]) (by rw [hO.out]; kernel_rfl) (by simp) (AllReadyH.cons (o := _) (by rw [hO.out]; rfl) (fun K hK => ?_) (AllReadyH.cons (o := _) (by rw [hO.out]; rfl) (fun K hK => ?_) AllReadyH.nil))
      · rw [if_pos (by rw [hO.out]; rfl)]
        simp only [List.getElem_toArray, List.getElem_cons_zero, List.getElem_cons_succ]
        go_simp
        refine (lay1 F1.out).mono ?_
        rintro e v2 ⟨a1, c1, rfl, hown, hb⟩
        have F1 : Hid (RdU v2 (some ⟨g1, 0, none⟩) [8, 0]) := RdU.below F1.out hb
        have F2 : Hid (RdU v2 (some ⟨g2, 0, none⟩) [0]) := RdU.below F2.out hb
        have G1 : Hid (Own v2 w1.heap.size (.slice a1 2 c1) [8, 0]) := Own.base hown HS.out.size
        have HS2 : Hid (Below w1.heap.size w1 v2) := below_next HS.out hb
        clear hown hb
        go_wp2_with fail
        refine hK.out _ _ HS2.out ?_
        clear hK K hHeld
        intro hHeld
        try simp only [Act.put, List.setIfInBounds_toArray, List.set_cons_zero, List.set_cons_succ]
        refine take_at (i := 14) 58 (v := ?_) (by rw [hO.out]; rfl) (by rfl) (by rw [hO.out]; kernel_rfl) (by rw [hO.out]; kernel_rfl) (by rw [hO.out]; kernel_rfl) (fun _ _ _ h => by rw [hQ.out] at h ⊢; exact h) (by rw [hO.out]; rfl) ?_ hHeld ?_
        rotate_left
        · (intro w hSw; (try dsimp only at hSw); go_simp; try with_reducible rfl)
        simp only [Act.put, List.setIfInBounds_toArray, List.set_cons_zero, List.set_cons_succ]
        refine wpAnyH_listed (l' := #[true, true, true, true, true, true, true, true, true, true, true, true, true, true, true, true, false, false, false, true, true, false, false, false, false]) (by kernel_rfl) ?_
        have hfin := keyabc v2 HS2 g1 g2 F2 a1 c1 G1
        rw [hA.out] at hfin
        exact hfin
      · rw [if_pos (by rw [hO.out]; rfl)]
        simp only [List.getElem_toArray, List.getElem_cons_zero, List.getElem_cons_succ]
        go_simp
        go_wp2_with fail
        obtain ⟨v2, hv⟩ : ∃ u : World, u = v.alloc (.cells #[.int .u64 0, .int .u64 0, .int .u64 0, .int .u64 0, .int .u64 0, .int .u64 0, .int .u64 0, .int .u64 0, .int .u64 0, .int .u64 0, .slice none 0 0, .slice none 0 0] 34) := ⟨_, rfl⟩
        rw [← hv]
        obtain ⟨L, hg⟩ : ∃ u, u = v.heap.size := ⟨_, rfl⟩
        rw [← hg]
        obtain ⟨hb, hnew, hLL, HS2⟩ := alloc_facts HS hv hg
        have HL : Hid _ := hnew
        have F1 : Hid (RdU v2 (some ⟨g1, 0, none⟩) [8, 0]) := RdU.below F1.out hb
        have F2 : Hid (RdU v2 (some ⟨g2, 0, none⟩) [0]) := RdU.below F2.out hb
        clear hv hg hnew hb
        refine hK.out _ _ HS2.out ?_
        clear hK K hHeld
        intro hHeld
        try simp only [Act.put, List.setIfInBounds_toArray, List.set_cons_zero, List.set_cons_succ]
        refine wpAnyH_listed (l' := #[true, true, true, true, true, true, true, true, true, true, true, true, true, false, false, true, false, false, false, true, true, false, false, true, false]) (by kernel_rfl) ?_
        have hfin := keyacg v2 HS2 g1 F1 g2 F2 L hLL HL
        rw [hA.out] at hfin
        exact hfin
    have keyag : ∀ (v : World) (HS : Hid (Below w1.heap.size w1 v)) (g1 : Nat) (F1 : Hid (RdU v (some ⟨g1, 0, none⟩) [8, 0])) (L : Nat) (hLL : w1.heap.size ≤ L) (HL : Hid (v.heap[L]? = some (.cells #[.int .u64 0, .int .u64 0, .int .u64 0, .int .u64 0, .int .u64 0, .int .u64 0, .int .u64 0, .int .u64 0, .int .u64 0, .int .u64 0, .slice none 0 0, .slice none 0 0] 34 (0, 0)))), wpAnyH Try.prog Region.Mode.any OPS QQ (fun u => Below w1.heap.size w1 u) 9 #[true, true, true, true, true, true, true, true, true, true, true, true, true, false, false, false, false, false, false, true, true, false, false, true, false] (A (.pointer (some ⟨L, 0, none⟩)) (.slice (some ⟨g1, 0, none⟩) 2 2) undef undef undef undef undef undef undef undef) v := by
      intro v HS g1 F1 L hLL HL
      rw [hA.out]
      dsimp only
      have hHeld := HS.out
      refine wpAnyH_ready (rs := [13, 15]) (by rw [hO.out]; kernel_rfl) (by simp) (AllReadyH.cons (o := _) (by rw [hO.out]; rfl) (fun K hK => ?_) (AllReadyH.cons (o := _) (by rw [hO.out]; rfl) (fun K hK => ?_) AllReadyH.nil))
      · rw [if_pos (by rw [hO.out]; rfl)]
        simp only [List.getElem_toArray, List.getElem_cons_zero, List.getElem_cons_succ]
        go_simp
        refine (lay1 F1.out).mono ?_
        rintro e v2 ⟨a1, c1, rfl, hown, hb⟩
        have n1L := own_old HL hown
        have F1 : Hid (RdU v2 (some ⟨g1, 0, none⟩) [8, 0]) := RdU.below F1.out hb
        have HL : Hid (v2.heap[L]? = some (.cells #[.int .u64 0, .int .u64 0, .int .u64 0, .int .u64 0, .int .u64 0, .int .u64 0, .int .u64 0, .int .u64 0, .int .u64 0, .int .u64 0, .slice none 0 0, .slice none 0 0] 34 (0, 0))) := box_on HL.out hb
        have G1 : Hid (Own v2 w1.heap.size (.slice a1 2 c1) [8, 0]) := Own.base hown HS.out.size
        have HS2 : Hid (Below w1.heap.size w1 v2) := below_next HS.out hb
        clear hown hb
        go_wp2_with fail
        refine hK.out _ _ HS2.out ?_
        clear hK K hHeld
        intro hHeld
        try simp only [Act.put, List.setIfInBounds_toArray, List.set_cons_zero, List.set_cons_succ]
        refine take_at (i := 14) 58 (v := ?_) (by rw [hO.out]; rfl) (by rfl) (by rw [hO.out]; kernel_rfl) (by rw [hO.out]; kernel_rfl) (by rw [hO.out]; kernel_rfl) (fun _ _ _ h => by rw [hQ.out] at h ⊢; exact h) (by rw [hO.out]; rfl) ?_ hHeld ?_
        rotate_left
        · (intro w hSw; (try dsimp only at hSw); go_simp; try with_reducible rfl)
        simp only [Act.put, List.setIfInBounds_toArray, List.set_cons_zero, List.set_cons_succ]
        refine wpAnyH_listed (l' := #[true, true, true, true, true, true, true, true, true, true, true, true, true, true, true, false, false, false, false, true, true, false, false, true, false]) (by kernel_rfl) ?_
        have hfin := keyabg v2 HS2 g1 a1 c1 G1 L hLL HL n1L
        rw [hA.out] at hfin
        exact hfin
      · rw [if_pos (by rw [hO.out]; rfl)]
        simp only [List.getElem_toArray, List.getElem_cons_zero, List.getElem_cons_succ]
        go_simp
        go_wp2_with fail
        obtain ⟨v2, hv⟩ : ∃ u : World, u = v.alloc (.cells #[.int .u64 0] 22) := ⟨_, rfl⟩
        rw [← hv]
        obtain ⟨g2, hg⟩ : ∃ u, u = v.heap.size := ⟨_, rfl⟩
        rw [← hg]
        obtain ⟨hb, hnew, hg2, HS2⟩ := alloc_facts HS hv hg
        have F2 : Hid (RdU v2 (some ⟨g2, 0, none⟩) [0]) := by rw [hv]; exact rdu_new _ _ hg _ _ _ _ rfl
        have F1 : Hid (RdU v2 (some ⟨g1, 0, none⟩) [8, 0]) := RdU.below F1.out hb
        have HL : Hid (v2.heap[L]? = some (.cells #[.int .u64 0, .int .u64 0, .int .u64 0, .int .u64 0, .int .u64 0, .int .u64 0, .int .u64 0, .int .u64 0, .int .u64 0, .int .u64 0, .slice none 0 0, .slice none 0 0] 34 (0, 0))) := box_on HL.out hb
        clear hv hg hnew hb
        refine hK.out _ _ HS2.out ?_
        clear hK K hHeld
        intro hHeld
        try simp only [Act.put, List.setIfInBounds_toArray, List.set_cons_zero, List.set_cons_succ]
        refine wpAnyH_listed (l' := #[true, true, true, true, true, true, true, true, true, true, true, true, true, false, false, true, false, false, false, true, true, false, false, true, false]) (by kernel_rfl) ?_
        have hfin := keyacg v2 HS2 g1 F1 g2 F2 L hLL HL
        rw [hA.out] at hfin
        exact hfin
    have keycg : ∀ (v : World) (HS : Hid (Below w1.heap.size w1 v)) (g2 : Nat) (F2 : Hid (RdU v (some ⟨g2, 0, none⟩) [0])) (L : Nat) (hLL : w1.heap.size ≤ L) (HL : Hid (v.heap[L]? = some (.cells #[.int .u64 0, .int .u64 0, .int .u64 0, .int .u64 0, .int .u64 0, .int .u64 0, .int .u64 0, .int .u64 0, .int .u64 0, .int .u64 0, .slice none 0 0, .slice none 0 0] 34 (0, 0)))), wpAnyH Try.prog Region.Mode.any OPS QQ (fun u => Below w1.heap.size w1 u) 9 #[true, true, true, true, true, true, true, true, true, true, true, true, false, false, false, true, false, false, false, true, true, false, false, true, false] (A (.pointer (some ⟨L, 0, none⟩)) undef undef undef (.slice (some ⟨g2, 0, none⟩) 1 1) undef undef undef undef undef) v := by
      intro v HS g2 F2 L hLL HL
      rw [hA.out]
      dsimp only
      have hHeld := HS.out
      refine run_at (i := 12) (by rw [hO.out]; rfl) (by rw [hO.out]; kernel_rfl) (by rw [hO.out]; rfl) (fun K hK => ?_)
      simp only [List.getElem_toArray, List.getElem_cons_zero, List.getElem_cons_succ]
      go_simp
      go_wp2_with fail
      obtain ⟨v2, hv⟩ : ∃ u : World, u = v.alloc (.cells #[.int .u64 8, .int .u64 0] 22) := ⟨_, rfl⟩
      rw [← hv]
      obtain ⟨g1, hg⟩ : ∃ u, u = v.heap.size := ⟨_, rfl⟩
      rw [← hg]
      obtain ⟨hb, hnew, hg1, HS2⟩ := alloc_facts HS hv hg
      have F1 : Hid (RdU v2 (some ⟨g1, 0, none⟩) [8, 0]) := by rw [hv]; exact rdu_new _ _ hg _ _ _ _ rfl
      have F2 : Hid (RdU v2 (some ⟨g2, 0, none⟩) [0]) := RdU.below F2.out hb
      have HL : Hid (v2.heap[L]? = some (.cells #[.int .u64 0, .int .u64 0, .int .u64 0, .int .u64 0, .int .u64 0, .int .u64 0, .int .u64 0, .int .u64 0, .int .u64 0, .int .u64 0, .slice none 0 0, .slice none 0 0] 34 (0, 0))) := box_on HL.out hb
      clear hv hg hnew hb
      refine hK.out _ _ HS2.out ?_
      clear hK K hHeld
      intro hHeld
      try simp only [Act.put, List.setIfInBounds_toArray, List.set_cons_zero, List.set_cons_succ]
      refine wpAnyH_listed (l' := #[true, true, true, true, true, true, true, true, true, true, true, true, true, false, false, true, false, false, false, true, true, false, false, true, false]) (by kernel_rfl) ?_
      have hfin := keyacg v2 HS2 g1 F1 g2 F2 L hLL HL
      rw [hA.out] at hfin
      exact hfin
    have keya : ∀ (v : World) (HS : Hid (Below w1.heap.size w1 v)) (g1 : Nat) (F1 : Hid (RdU v (some ⟨g1, 0, none⟩) [8, 0])), wpAnyH Try.prog Region.Mode.any OPS QQ (fun u => Below w1.heap.size w1 u) 10 #[true, true, true, true, true, true, true, true, true, true, true, true, true, false, false, false, false, false, false, true, true, false, false, false, false] (A undef (.slice (some ⟨g1, 0, none⟩) 2 2) undef undef undef undef undef undef undef undef) v := by
      intro v HS g1 F1
      rw [hA.out]
      dsimp only
      have hHeld := HS.out
      refine wpAnyH_ready (rs := [13, 15, 23]) (by rw [hO.out]; kernel_rfl) (by simp) (AllReadyH.cons (o := _) (by rw [hO.out]; rfl) (fun K hK => ?_) (AllReadyH.cons (o := _) (by rw [hO.out]; rfl) (fun K hK => ?_) (AllReadyH.cons (o := _) (by rw [hO.out]; rfl) (fun K hK => ?_) AllReadyH.nil)))
      · rw [if_pos (by rw [hO.out]; rfl)]
        simp only [List.getElem_toArray, List.getElem_cons_zero, List.getElem_cons_succ]
        go_simp
        refine (lay1 F1.out).mono ?_
        rintro e v2 ⟨a1, c1, rfl, hown, hb⟩
        have F1 : Hid (RdU v2 (some ⟨g1, 0, none⟩) [8, 0]) := RdU.below F1.out hb
        have G1 : Hid (Own v2 w1.heap.size (.slice a1 2 c1) [8, 0]) := Own.base hown HS.out.size
        have HS2 : Hid (Below w1.heap.size w1 v2) := below_next HS.out hb
        clear hown hb
        go_wp2_with fail
        refine hK.out _ _ HS2.out ?_
        clear hK K hHeld
        intro hHeld
        try simp only [Act.put, List.setIfInBounds_toArray, List.set_cons_zero, List.set_cons_succ]
        refine take_at (i := 14) 58 (v := ?_) (by rw [hO.out]; rfl) (by rfl) (by rw [hO.out]; kernel_rfl) (by rw [hO.out]; kernel_rfl) (by rw [hO.out]; kernel_rfl) (fun _ _ _ h => by rw [hQ.out] at h ⊢; exact h) (by rw [hO.out]; rfl) ?_ hHeld ?_
        rotate_left
        · (intro w hSw; (try dsimp only at hSw); go_simp; try with_reducible rfl)
        simp only [Act.put, List.setIfInBounds_toArray, List.set_cons_zero, List.set_cons_succ]
        refine wpAnyH_listed (l' := #[true, true, true, true, true, true, true, true, true, true, true, true, true, true, true, false, false, false, false, true, true, false, false, false, false]) (by kernel_rfl) ?_
        have hfin := keyab v2 HS2 g1 a1 c1 G1
        rw [hA.out] at hfin
        exact hfin
      · rw [if_pos (by rw [hO.out]; rfl)]
        simp only [List.getElem_toArray, List.getElem_cons_zero, List.getElem_cons_succ]
        go_simp
        go_wp2_with fail
        obtain ⟨v2, hv⟩ : ∃ u : World, u = v.alloc (.cells #[.int .u64 0] 22) := ⟨_, rfl⟩
        rw [← hv]
        obtain ⟨g2, hg⟩ : ∃ u, u = v.heap.size := ⟨_, rfl⟩
        rw [← hg]
        obtain ⟨hb, hnew, hg2, HS2⟩ := alloc_facts HS hv hg
        have F2 : Hid (RdU v2 (some ⟨g2, 0, none⟩) [0]) := by rw [hv]; exact rdu_new _ _ hg _ _ _ _ rfl
        have F1 : Hid (RdU v2 (some ⟨g1, 0, none⟩) [8, 0]) := RdU.below F1.out hb
        clear hv hg hnew hb
        refine hK.out _ _ HS2.out ?_
        clear hK K hHeld
        intro hHeld
        try simp only [Act.put, List.setIfInBounds_toArray, List.set_cons_zero, List.set_cons_succ]
        refine wpAnyH_listed (l' := #[true, true, true, true, true, true, true, true, true, true, true, true, true, false, false, true, false, false, false, true, true, false, false, false, false]) (by kernel_rfl) ?_
        have hfin := keyac v2 HS2 g1 F1 g2 F2
        rw [hA.out] at hfin
        exact hfin
      · rw [if_pos (by rw [hO.out]; rfl)]
        simp only [List.getElem_toArray, List.getElem_cons_zero, List.getElem_cons_succ]
        go_simp
        go_wp2_with fail
        obtain ⟨v2, hv⟩ : ∃ u : World, u = v.alloc (.cells #[.int .u64 0, .int .u64 0, .int .u64 0, .int .u64 0, .int .u64 0, .int .u64 0, .int .u64 0, .int .u64 0, .int .u64 0, .int .u64 0, .slice none 0 0, .slice none 0 0] 34) := ⟨_, rfl⟩
        rw [← hv]
        obtain ⟨L, hg⟩ : ∃ u, u = v.heap.size := ⟨_, rfl⟩
        rw [← hg]
        obtain ⟨hb, hnew, hLL, HS2⟩ := alloc_facts HS hv hg
        have HL : Hid _ := hnew
        have F1 : Hid (RdU v2 (some ⟨g1, 0, none⟩) [8, 0]) := RdU.below F1.out hb
        clear hv hg hnew hb
        refine hK.out _ _ HS2.out ?_
        clear hK K hHeld
        intro hHeld
        try simp only [Act.put, List.setIfInBounds_toArray, List.set_cons_zero, List.set_cons_succ]
        refine wpAnyH_listed (l' := #[true, true, true, true, true, true, true, true, true, true, true, true, true, false, false, false, false, false, false, true, true, false, false, true, false]) (by kernel_rfl) ?_
        have hfin := keyag v2 HS2 g1 F1 L hLL HL
        rw [hA.out] at hfin
        exact hfin
    have keyc : ∀ (v : World) (HS : Hid (Below w1.heap.size w1 v)) (g2 : Nat) (F2 : Hid (RdU v (some ⟨g2, 0, none⟩) [0])), wpAnyH Try.prog Region.Mode.any OPS QQ (fun u => Below w1.heap.size w1 u) 10 #[true, true, true, true, true, true, true, true, true, true, true, true, false, false, false, true, false, false, false, true, true, false, false, false, false] (A undef undef undef undef (.slice (some ⟨g2, 0, none⟩) 1 1) undef undef undef undef undef) v := by
      intro v HS g2 F2
      rw [hA.out]
      dsimp only
      have hHeld := HS.out
      refine wpAnyH_ready (rs := [12, 23]) (by rw [hO.out]; kernel_rfl) (by simp) (AllReadyH.cons (o := _) (by rw [hO.out]; rfl) (fun K hK => ?_) (AllReadyH.cons (o := _) (by rw [hO.out]; rfl) (fun K hK => ?_) AllReadyH.nil))
      · rw [if_pos (by rw [hO.out]; rfl)]
        simp only [List.getElem_toArray, List.getElem_cons_zero, List.getElem_cons_succ]
        go_simp
        go_wp2_with fail
        obtain ⟨v2, hv⟩ : ∃ u : World, u = v.alloc (.cells #[.int .u64 8, .int .u64 0] 22) := ⟨_, rfl⟩
        rw [← hv]
        obtain ⟨g1, hg⟩ : ∃ u, u = v.heap.size := ⟨_, rfl⟩
        rw [← hg]
        obtain ⟨hb, hnew, hg1, HS2⟩ := alloc_facts HS hv hg
        have F1 : Hid (RdU v2 (some ⟨g1, 0, none⟩) [8, 0]) := by rw [hv]; exact rdu_new _ _ hg _ _ _ _ rfl
        have F2 : Hid (RdU v2 (some ⟨g2, 0, none⟩) [0]) := RdU.below F2.out hb
        clear hv hg hnew hb
        refine hK.out _ _ HS2.out ?_
        clear hK K hHeld
        intro hHeld
        try simp only [Act.put, List.setIfInBounds_toArray, List.set_cons_zero, List.set_cons_succ]
        refine wpAnyH_listed (l' := #[true, true, true, true, true, true, true, true, true, true, true, true, true, false, false, true, false, false, false, true, true, false, false, false, false]) (by kernel_rfl) ?_
        have hfin := keyac v2 HS2 g1 F1 g2 F2
        rw [hA.out] at hfin
        exact hfin
      · rw [if_pos (by rw [hO.out]; rfl)]
        simp only [List.getElem_toArray, List.getElem_cons_zero, List.getElem_cons_succ]
        go_simp
        go_wp2_with fail
        obtain ⟨v2, hv⟩ : ∃ u : World, u = v.alloc (.cells #[.int .u64 0, .int .u64 0, .int .u64 0, .int .u64 0, .int .u64 0, .int .u64 0, .int .u64 0, .int .u64 0, .int .u64 0, .int .u64 0, .slice none 0 0, .slice none 0 0] 34) := ⟨_, rfl⟩
        rw [← hv]
        obtain ⟨L, hg⟩ : ∃ u, u = v.heap.size := ⟨_, rfl⟩
        rw [← hg]
        obtain ⟨hb, hnew, hLL, HS2⟩ := alloc_facts HS hv hg
        have HL : Hid _ := hnew
        have F2 : Hid (RdU v2 (some ⟨g2, 0, none⟩) [0]) := RdU.below F2.out hb
        clear hv hg hnew hb
        refine hK.out _ _ HS2.out ?_
        clear hK K hHeld
        intro hHeld
        try simp only [Act.put, List.setIfInBounds_toArray, List.set_cons_zero, List.set_cons_succ]
        refine wpAnyH_listed (l' := #[true, true, true, true, true, true, true, true, true, true, true, true, false, false, false, true, false, false, false, true, true, false, false, true, false]) (by kernel_rfl) ?_
        have hfin := keycg v2 HS2 g2 F2 L hLL HL
        rw [hA.out] at hfin
        exact hfin
    have keyg : ∀ (v : World) (HS : Hid (Below w1.heap.size w1 v)) (L : Nat) (hLL : w1.heap.size ≤ L) (HL : Hid (v.heap[L]? = some (.cells #[.int .u64 0, .int .u64 0, .int .u64 0, .int .u64 0, .int .u64 0, .int .u64 0, .int .u64 0, .int .u64 0, .int .u64 0, .int .u64 0, .slice none 0 0, .slice none 0 0] 34 (0, 0)))), wpAnyH Try.prog Region.Mode.any OPS QQ (fun u => Below w1.heap.size w1 u) 10 #[true, true, true, true, true, true, true, true, true, true, true, true, false, false, false, false, false, false, false, true, true, false, false, true, false] (A (.pointer (some ⟨L, 0, none⟩)) undef undef undef undef undef undef undef undef undef) v := by
      intro v HS L hLL HL
      rw [hA.out]
      dsimp only
      have hHeld := HS.out
      refine wpAnyH_ready (rs := [12, 15]) (by rw [hO.out]; kernel_rfl) (by simp) (AllReadyH.cons (o := _) (by rw [hO.out]; rfl) (fun K hK => ?_) (AllReadyH.cons (o := _) (by rw [hO.out]; rfl) (fun K hK => ?_) AllReadyH.nil))
      · rw [if_pos (by rw [hO.out]; rfl)]
        simp only [List.getElem_toArray, List.getElem_cons_zero, List.getElem_cons_succ]
        go_simp
        go_wp2_with fail
        obtain ⟨v2, hv⟩ : ∃ u : World, u = v.alloc (.cells #[.int .u64 8, .int .u64 0] 22) := ⟨_, rfl⟩
        rw [← hv]
        obtain ⟨g1, hg⟩ : ∃ u, u = v.heap.size := ⟨_, rfl⟩
        rw [← hg]
        obtain ⟨hb, hnew, hg1, HS2⟩ := alloc_facts HS hv hg
        have F1 : Hid (RdU v2 (some ⟨g1, 0, none⟩) [8, 0]) := by rw [hv]; exact rdu_new _ _ hg _ _ _ _ rfl
        have HL : Hid (v2.heap[L]? = some (.cells #[.int .u64 0, .int .u64 0, .int .u64 0, .int .u64 0, .int .u64 0, .int .u64 0, .int .u64 0, .int .u64 0, .int .u64 0, .int .u64 0, .slice none 0 0, .slice none 0 0] 34 (0, 0))) := box_on HL.out hb
        clear hv hg hnew hb
        refine hK.out _ _ HS2.out ?_
        clear hK K hHeld
        intro hHeld
        try simp only [Act.put, List.setIfInBounds_toArray, List.set_cons_zero, List.set_cons_succ]
        refine wpAnyH_listed (l' := #[true, true, true, true, true, true, true, true, true, true, true, true, true, false, false, false, false, false, false, true, true, false, false, true, false]) (by kernel_rfl) ?_
        have hfin := keyag v2 HS2 g1 F1 L hLL HL
        rw [hA.out] at hfin
        exact hfin
      · rw [if_pos (by rw [hO.out]; rfl)]
        simp only [List.getElem_toArray, List.getElem_cons_zero, List.getElem_cons_succ]
        go_simp
        go_wp2_with fail
        obtain ⟨v2, hv⟩ : ∃ u : World, u = v.alloc (.cells #[.int .u64 0] 22) := ⟨_, rfl⟩
        rw [← hv]
        obtain ⟨g2, hg⟩ : ∃ u, u = v.heap.size := ⟨_, rfl⟩
        rw [← hg]
        obtain ⟨hb, hnew, hg2, HS2⟩ := alloc_facts HS hv hg
        have F2 : Hid (RdU v2 (some ⟨g2, 0, none⟩) [0]) := by rw [hv]; exact rdu_new _ _ hg _ _ _ _ rfl
        have HL : Hid (v2.heap[L]? = some (.cells #[.int .u64 0, .int .u64 0, .int .u64 0, .int .u64 0, .int .u64 0, .int .u64 0, .int .u64 0, .int .u64 0, .int .u64 0, .int .u64 0, .slice none 0 0, .slice none 0 0] 34 (0, 0))) := box_on HL.out hb
        clear hv hg hnew hb
        refine hK.out _ _ HS2.out ?_
        clear hK K hHeld
        intro hHeld
        try simp only [Act.put, List.setIfInBounds_toArray, List.set_cons_zero, List.set_cons_succ]
        refine wpAnyH_listed (l' := #[true, true, true, true, true, true, true, true, true, true, true, true, false, false, false, true, false, false, false, true, true, false, false, true, false]) (by kernel_rfl) ?_
        have hfin := keycg v2 HS2 g2 F2 L hLL HL
        rw [hA.out] at hfin
        exact hfin
    have key : ∀ (v : World) (HS : Hid (Below w1.heap.size w1 v)), wpAnyH Try.prog Region.Mode.any OPS QQ (fun u => Below w1.heap.size w1 u) 11 #[true, true, true, true, true, true, true, true, true, true, true, true, false, false, false, false, false, false, false, true, true, false, false, false, false] (A undef undef undef undef undef undef undef undef undef undef) v := by
      intro v HS
      rw [hA.out]
      dsimp only
      have hHeld := HS.out
      refine wpAnyH_ready (rs := [12, 15, 23]) (by rw [hO.out]; kernel_rfl) (by simp) (AllReadyH.cons (o := _) (by rw [hO.out]; rfl) (fun K hK => ?_) (AllReadyH.cons (o := _) (by rw [hO.out]; rfl) (fun K hK => ?_) (AllReadyH.cons (o := _) (by rw [hO.out]; rfl) (fun K hK => ?_) AllReadyH.nil)))
      · rw [if_pos (by rw [hO.out]; rfl)]
        simp only [List.getElem_toArray, List.getElem_cons_zero, List.getElem_cons_succ]
        go_simp
        go_wp2_with fail
        obtain ⟨v2, hv⟩ : ∃ u : World, u = v.alloc (.cells #[.int .u64 8, .int .u64 0] 22) := ⟨_, rfl⟩
        rw [← hv]
        obtain ⟨g1, hg⟩ : ∃ u, u = v.heap.size := ⟨_, rfl⟩
        rw [← hg]
        obtain ⟨hb, hnew, hg1, HS2⟩ := alloc_facts HS hv hg
        have F1 : Hid (RdU v2 (some ⟨g1, 0, none⟩) [8, 0]) := by rw [hv]; exact rdu_new _ _ hg _ _ _ _ rfl
        clear hv hg hnew hb
        refine hK.out _ _ HS2.out ?_
        clear hK K hHeld
        intro hHeld
        try simp only [Act.put, List.setIfInBounds_toArray, List.set_cons_zero, List.set_cons_succ]
        refine wpAnyH_listed (l' := #[true, true, true, true, true, true, true, true, true, true, true, true, true, false, false, false, false, false, false, true, true, false, false, false, false]) (by kernel_rfl) ?_
        have hfin := keya v2 HS2 g1 F1
        rw [hA.out] at hfin
        exact hfin
      · rw [if_pos (by rw [hO.out]; rfl)]
        simp only [List.getElem_toArray, List.getElem_cons_zero, List.getElem_cons_succ]
        go_simp
        go_wp2_with fail
        obtain ⟨v2, hv⟩ : ∃ u : World, u = v.alloc (.cells #[.int .u64 0] 22) := ⟨_, rfl⟩
        rw [← hv]
        obtain ⟨g2, hg⟩ : ∃ u, u = v.heap.size := ⟨_, rfl⟩
        rw [← hg]
        obtain ⟨hb, hnew, hg2, HS2⟩ := alloc_facts HS hv hg
        have F2 : Hid (RdU v2 (some ⟨g2, 0, none⟩) [0]) := by rw [hv]; exact rdu_new _ _ hg _ _ _ _ rfl
        clear hv hg hnew hb
        refine hK.out _ _ HS2.out ?_
        clear hK K hHeld
        intro hHeld
        try simp only [Act.put, List.setIfInBounds_toArray, List.set_cons_zero, List.set_cons_succ]
        refine wpAnyH_listed (l' := #[true, true, true, true, true, true, true, true, true, true, true, true, false, false, false, true, false, false, false, true, true, false, false, false, false]) (by kernel_rfl) ?_
        have hfin := keyc v2 HS2 g2 F2
        rw [hA.out] at hfin
        exact hfin
      · rw [if_pos (by rw [hO.out]; rfl)]
        simp only [List.getElem_toArray, List.getElem_cons_zero, List.getElem_cons_succ]
        go_simp
        go_wp2_with fail
        obtain ⟨v2, hv⟩ : ∃ u : World, u = v.alloc (.cells #[.int .u64 0, .int .u64 0, .int .u64 0, .int .u64 0, .int .u64 0, .int .u64 0, .int .u64 0, .int .u64 0, .int .u64 0, .int .u64 0, .slice none 0 0, .slice none 0 0] 34) := ⟨_, rfl⟩
        rw [← hv]
        obtain ⟨L, hg⟩ : ∃ u, u = v.heap.size := ⟨_, rfl⟩
        rw [← hg]
        obtain ⟨hb, hnew, hLL, HS2⟩ := alloc_facts HS hv hg
        have HL : Hid _ := hnew
        clear hv hg hnew hb
        refine hK.out _ _ HS2.out ?_
        clear hK K hHeld
        intro hHeld
        try simp only [Act.put, List.setIfInBounds_toArray, List.set_cons_zero, List.set_cons_succ]
        refine wpAnyH_listed (l' := #[true, true, true, true, true, true, true, true, true, true, true, true, false, false, false, false, false, false, false, true, true, false, false, true, false]) (by kernel_rfl) ?_
        have hfin := keyg v2 HS2 L hLL HL
        rw [hA.out] at hfin
        exact hfin
    have hfin := key v0 HS0
    rw [hA.out] at hfin
    exact hfin
  obtain ⟨L, Q, a1, a2, a3, c1, c2, c3, rfl, hrel⟩ := hcut
  clear p0 p1 p2 p3 p4
  have hRc := box_on HR1.out hrel.bel
  have HREL : Hid _ := hrel
  have hLR : w1.heap.size ≤ L := hrel.hL
  have hRw : w.heap.size + 1 < w1.heap.size := (Array.getElem?_eq_some_iff.1 HR1.out).1
  obtain ⟨k0, k1, k2, k3, k4, k5, k6, k7, k8, k9, k10, k11, kz0, kz1, kz2, kz3, kz4, kz5, kz6, kz7, kz8, kz9, kz10, kz11⟩ := cells12 hrel.box
  obtain ⟨r0, r1, r2, r3, r4, r5, r6, r7, r8, r9, r10, r11, rz0, rz1, rz2, rz3, rz4, rz5, rz6, rz7, rz8, rz9, rz10, rz11⟩ := cells12 hRc
  have hbwc := below_next hbw hrel.bel
  clear hrel
  have hwl : w.heap.size ≤ w1.heap.size := by omega
  have hok : (wrB (s : Int) tm sq lf d fr tt nw).ok := by
    have hp := HPl.out
    have hb := HBD.out
    refine ⟨?_, ?_, ?_, ?_, ?_, ?_, ?_, ?_, ?_, ?_, ?_, ?_, ?_⟩ <;> unfold wrB <;> simp only [Int.toNat_natCast]
    · split <;> omega
    · omega
    · omega
    · omega
    · omega
    · omega
    · omega
    · omega
    · omega
    · omega
    · intro x hx
      simp at hx
      rcases hx with rfl | rfl <;> exact ⟨by decide, by decide, by decide, by decide⟩
    · decide
    · omega
  have HOKW : Hid _ := hok
  clear hok
  have hor : bits .or .u64 5 2 = 7 := by decide
  rcases nw with _ | _
  · go_wp2
    have hfin := heap_set12 (v0 := .int .u64 5) (v1 := .int .u64 (tt : Nat)) (v2 := .int .u64 (s : Nat)) (v3 := .int .u64 (fr : Nat)) (v4 := .int .u64 (s : Nat)) (v5 := .int .u64 (fr : Nat)) (v6 := .int .u64 0) (v7 := .int .u64 (tm : Nat)) (v8 := .int .u64 (sq : Nat)) (v9 := .int .u64 (lf : Nat)) (v10 := .slice (some ⟨Q, 0, none⟩) 2 2) (v11 := .slice a3 d.length c3) hRc
    refine bodyPost_ret (results_ct rfl _ _ (w.heap.size + 1) 34 _ (0, 0) _ rfl hfin Try.underlying34 rfl (by kernel_rfl)) rfl ?_
    have hr := HREL.out
    have gR : wc.grownBy _ (some (w.heap.size + 1)) := gr_set12 (w := wc) (g := w.heap.size + 1) (v0 := .int .u64 5) (v1 := .int .u64 (tt : Nat)) (v2 := .int .u64 (s : Nat)) (v3 := .int .u64 (fr : Nat)) (v4 := .int .u64 (s : Nat)) (v5 := .int .u64 (fr : Nat)) (v6 := .int .u64 0) (v7 := .int .u64 (tm : Nat)) (v8 := .int .u64 (sq : Nat)) (v9 := .int .u64 (lf : Nat)) (v10 := .slice (some ⟨Q, 0, none⟩) 2 2) (v11 := .slice a3 d.length c3)
    refine ⟨⟨wrB (s : Int) tm sq lf d fr tt false, some ⟨Q, 0, none⟩, 2, a3, c3, 0, ?_, rfl, ?_, ?_, HOKW.out⟩, below_set12 hbwc (by simp)⟩
    · unfold bunV wrB
      simp only [Int.toNat_natCast]
      rfl
    · refine rowB_two (by have := hr.hQ; omega) (gr_box gR (by have := hr.hQ; omega) hr.row) (Own.base (Own.grown hr.o1 gR (own_nbW hr.o1 (by omega))) hwl) (Own.base (Own.grown hr.o2 gR (own_nbW hr.o2 (by omega))) hwl) (fun q hq => (hr.n1 q hq).1) (fun q hq => (hr.n2 q hq).1)
    · exact Own.base (Own.grown hr.o3 gR (own_nbW hr.o3 (by omega))) hwl
  · go_wp2
    obtain ⟨X, hX⟩ : ∃ X : World, X = wc.setCell ⟨L, 0, none⟩ (.int .u64 7) := ⟨_, rfl⟩
    have hgX : wc.grownBy X (some L) := by rw [hX]; exact gr_set (World.grownBy.refl _ _) _ _
    have hRX := gr_box hgX (by omega) hRc
    rw [← hX]
    have hfin := heap_set12 (v0 := .int .u64 7) (v1 := .int .u64 (tt : Nat)) (v2 := .int .u64 (s : Nat)) (v3 := .int .u64 (fr : Nat)) (v4 := .int .u64 (s : Nat)) (v5 := .int .u64 (fr : Nat)) (v6 := .int .u64 0) (v7 := .int .u64 (tm : Nat)) (v8 := .int .u64 (sq : Nat)) (v9 := .int .u64 (lf : Nat)) (v10 := .slice (some ⟨Q, 0, none⟩) 2 2) (v11 := .slice a3 d.length c3) hRX
    refine bodyPost_ret (results_ct rfl _ _ (w.heap.size + 1) 34 _ (0, 0) _ rfl hfin Try.underlying34 rfl (by kernel_rfl)) rfl ?_
    have hr := HREL.out
    have gR : X.grownBy _ (some (w.heap.size + 1)) := gr_set12 (w := X) (g := w.heap.size + 1) (v0 := .int .u64 7) (v1 := .int .u64 (tt : Nat)) (v2 := .int .u64 (s : Nat)) (v3 := .int .u64 (fr : Nat)) (v4 := .int .u64 (s : Nat)) (v5 := .int .u64 (fr : Nat)) (v6 := .int .u64 0) (v7 := .int .u64 (tm : Nat)) (v8 := .int .u64 (sq : Nat)) (v9 := .int .u64 (lf : Nat)) (v10 := .slice (some ⟨Q, 0, none⟩) 2 2) (v11 := .slice a3 d.length c3)
    have hbX : Below w.heap.size w X := hbwc.grown hgX hbwc.size (fun q hq => by cases hq; omega)
    have p1 := Own.grown hr.o1 hgX (own_neW fun q hq => (hr.n1 q hq).2)
    have p2 := Own.grown hr.o2 hgX (own_neW fun q hq => (hr.n2 q hq).2)
    have p3 := Own.grown hr.o3 hgX (own_neW fun q hq => (hr.n3 q hq).2)
    refine ⟨⟨wrB (s : Int) tm sq lf d fr tt true, some ⟨Q, 0, none⟩, 2, a3, c3, 0, ?_, rfl, ?_, ?_, HOKW.out⟩, below_set12 hbX (by simp)⟩
    · unfold bunV wrB
      simp only [Int.toNat_natCast]
      rfl
    · refine rowB_two (by have := hr.hQ; omega) (gr_box gR (by have := hr.hQ; omega) (gr_box hgX (Ne.symm hr.nLQ) hr.row)) (Own.base (Own.grown p1 gR (own_nbW p1 (by omega))) hwl) (Own.base (Own.grown p2 gR (own_nbW p2 (by omega))) hwl) (fun q hq => (hr.n1 q hq).1) (fun q hq => (hr.n2 q hq).1)
    · exact Own.base (Own.grown p3 gR (own_nbW p3 (by omega))) hwl
end Go.Proofs.Ytdpkommmkcmifaa
namespace Go.Proofs.Ytdpkommmkcmifaa
set_option linter.unusedVariables false
set_option linter.unusedSimpArgs false
open Go.RowKit
set_option maxRecDepth 20000 in
set_option maxHeartbeats 1600000 in
theorem wrap_any (st : Int) (tm sq lf : Nat) (d : List UInt8) (fa : Option Addr) (fc : Nat) (fr tt : Nat) (nw : Bool) (w : World) (hd : Rd w fa d) (hn : fa = none → fc = 0) (hst : -9223372036854775808 ≤ st ∧ st ≤ 9223372036854775807) (hb : tm < 18446744073709551616 ∧ sq < 18446744073709551616 ∧ lf < 18446744073709551616 ∧ fr < 18446744073709551616 ∧ tt < 18446744073709551616) (hdl : d.length ≤ 140737488351232) :
    Calls Try.prog 15 #[.agg #[.int .i64 st, .int .u64 (tm : Nat), .int .u64 (sq : Nat), .int .u64 (lf : Nat), .slice fa d.length fc], .int .u64 (fr : Nat), .int .u64 (tt : Nat), .bool nw] w fun e w' => WrapOut w w' (wrapS st tm sq lf d fr tt nw) e ∧ Below w.heap.size w w' := by
  by_cases hgood : (fitF st tm sq lf ∧ fr ≤ 281474976710655 ∧ tt ≤ 281474976710655) ∧ d.length ≤ 512
  · have he : wrapS st tm sq lf d fr tt nw = (wrB st tm sq lf d fr tt nw, 0) := by unfold wrapS; rw [if_neg (fun h9 => h9 hgood.1), if_neg (by omega)]
    rw [he]
    exact wrap_lo st tm sq lf d fa fc fr tt nw w hd hn hgood.1.1 hgood.1.2.1 hgood.1.2.2 hgood.2
  have HBAD : Hid (¬ ((fitF st tm sq lf ∧ fr ≤ 281474976710655 ∧ tt ≤ 281474976710655) ∧ d.length ≤ 512)) := hgood
  clear hgood
  obtain ⟨b1, b2, b3, b4, b5⟩ := hb
  obtain ⟨t1, t2⟩ := hst
  clear hd hn
  by_cases hs0 : st < 0
  · have HWS : Hid (wrapS st tm sq lf d fr tt nw = (zeroB, 1)) := by unfold Hid wrapS; rw [if_pos (by unfold fitF; omega)]
    clear HBAD
    go_enter Try.func15, Try.ntmps15
    go_wp2
    refine bodyPost_ret (results_ct rfl _ _ (w.heap.size + 1) 34 _ (0, 0) _ rfl (two_new w _ _).2 Try.underlying34 rfl (by kernel_rfl)) rfl ?_
    exact ⟨⟨zeroB, none, 0, none, 0, 1, rfl, HWS.out, RowB.nil _ _, World.ownsRow_nil _ _ _ _, (zeroB_R w).ok⟩, al (al (Below.refl _ _) _) _⟩
  by_cases hs8 : 8 ≤ st
  · have HWS : Hid (wrapS st tm sq lf d fr tt nw = (zeroB, 1)) := by unfold Hid wrapS; rw [if_pos (by unfold fitF; omega)]
    clear HBAD
    go_enter Try.func15, Try.ntmps15
    go_wp2
    refine bodyPost_ret (results_ct rfl _ _ (w.heap.size + 1) 34 _ (0, 0) _ rfl (two_new w _ _).2 Try.underlying34 rfl (by kernel_rfl)) rfl ?_
    exact ⟨⟨zeroB, none, 0, none, 0, 1, rfl, HWS.out, RowB.nil _ _, World.ownsRow_nil _ _ _ _, (zeroB_R w).ok⟩, al (al (Below.refl _ _) _) _⟩
  obtain ⟨W0, hW0⟩ : ∃ W0 : World, W0 = (w.alloc (.cells #[.int .i64 st, .int .u64 (tm : Nat), .int .u64 (sq : Nat), .int .u64 (lf : Nat), .slice fa d.length fc] 47)).alloc (.cells #[.int .u64 0, .int .u64 0, .int .u64 0, .int .u64 0, .int .u64 0, .int .u64 0, .int .u64 0, .int .u64 0, .int .u64 0, .int .u64 0, .slice none 0 0, .slice none 0 0] 34) := ⟨_, rfl⟩
  have hF : W0.heap[w.heap.size]? = some (.cells #[.int .i64 st, .int .u64 (tm : Nat), .int .u64 (sq : Nat), .int .u64 (lf : Nat), .slice fa d.length fc] 47 (0, 0)) := by rw [hW0]; exact (two_new w _ _).1
  have hR : W0.heap[w.heap.size + 1]? = some (.cells #[.int .u64 0, .int .u64 0, .int .u64 0, .int .u64 0, .int .u64 0, .int .u64 0, .int .u64 0, .int .u64 0, .int .u64 0, .int .u64 0, .slice none 0 0, .slice none 0 0] 34 (0, 0)) := by rw [hW0]; exact (two_new w _ _).2
  have hb0 : Below w.heap.size w W0 := by rw [hW0]; exact al (al (Below.refl _ _) _) _
  have HS0 : Hid (w.heap.size + 1 + 1 = W0.heap.size) := by unfold Hid; rw [hW0]; simp
  have HNUM : Hid (numsS [tm, sq, lf, fr, tt] = true → 512 < d.length ∧ fitF st tm sq lf ∧ fr ≤ 281474976710655 ∧ tt ≤ 281474976710655) := by
    intro hn
    unfold numsS at hn
    simp at hn
    have h2 : fitF st tm sq lf ∧ fr ≤ 281474976710655 ∧ tt ≤ 281474976710655 := by unfold fitF; omega
    have h3 : ¬ d.length ≤ 512 := fun h => HBAD.out ⟨h2, h⟩
    exact ⟨by omega, h2⟩
  have HNOT : Hid (numsS [tm, sq, lf, fr, tt] = false → ¬ (fitF st tm sq lf ∧ fr ≤ 281474976710655 ∧ tt ≤ 281474976710655)) := by
    intro hn h
    unfold fitF at h
    unfold numsS at hn
    simp at hn
    omega
  go_enter Try.func15, Try.ntmps15
  go_wp2_with fail
  rw [← hW0]
  clear hW0
  obtain ⟨W1, hW1⟩ : ∃ W1 : World, W1 = W0.alloc (.cells #[.int .u64 (tm : Nat), .int .u64 (sq : Nat), .int .u64 (lf : Nat), .int .u64 (fr : Nat), .int .u64 (tt : Nat)] 22) := ⟨_, rfl⟩
  rw [← hW1]
  have hb1 : Below W0.heap.size W0 W1 := by rw [hW1]; exact al (Below.refl _ _) _
  have hU : RdU W1 (some ⟨w.heap.size + 1 + 1, 0, none⟩) [tm, sq, lf, fr, tt] := by rw [hW1]; exact rdu_new W0 _ HS0.out _ _ _ _ rfl
  clear hW1
  refine (numbers_any _ 5 5 [tm, sq, lf, fr, tt] W1 rfl hU (by simp)).mono ?_
  rintro e w1 ⟨rfl, hbe⟩
  have hbn : Below W1.heap.size W1 w1 := by rw [hbe]; exact Below.refl _ _
  clear hbe
  have hbw := below_next hb0 (below_next hb1 hbn)
  have hF1 := box_on (box_on hF hb1) hbn
  have hR1 := box_on (box_on hR hb1) hbn
  obtain ⟨k0, k1, k2, k3, k4, k5, k6, k7, k8, k9, k10, k11, kz0, kz1, kz2, kz3, kz4, kz5, kz6, kz7, kz8, kz9, kz10, kz11⟩ := cells12 hR1
  obtain ⟨f0, f1, f2, f3, f4, -⟩ := cells5W hF1
  clear hF hR hU hb1 hbn
  rcases hnum : numsS [tm, sq, lf, fr, tt] with _ | _
  · have HWS : Hid (wrapS st tm sq lf d fr tt nw = (zeroB, 1)) := by unfold Hid wrapS; rw [if_pos (HNOT.out hnum)]
    clear hnum HNOT HNUM HBAD
    go_wp2
    have hfin := heap_set12 (v0 := .int .u64 0) (v1 := .int .u64 0) (v2 := .int .u64 0) (v3 := .int .u64 0) (v4 := .int .u64 0) (v5 := .int .u64 0) (v6 := .int .u64 0) (v7 := .int .u64 0) (v8 := .int .u64 0) (v9 := .int .u64 0) (v10 := .slice none 0 0) (v11 := .slice none 0 0) hR1
    refine bodyPost_ret (results_ct rfl _ _ (w.heap.size + 1) 34 _ (0, 0) _ rfl hfin Try.underlying34 rfl (by kernel_rfl)) rfl ?_
    exact ⟨⟨zeroB, none, 0, none, 0, 1, rfl, HWS.out, RowB.nil _ _, World.ownsRow_nil _ _ _ _, (zeroB_R w).ok⟩, below_set12 hbw (by simp)⟩
  · obtain ⟨h512, hfit⟩ := HNUM.out hnum
    have HWS : Hid (wrapS st tm sq lf d fr tt nw = (zeroB, 81)) := by unfold Hid wrapS; rw [if_neg (fun h9 => h9 hfit), if_pos h512]
    have hdI : (512 : Int) < (d.length : Int) := by omega
    clear hnum HNOT HNUM HBAD hfit
    go_wp2
    have hfin := heap_set12 (v0 := .int .u64 0) (v1 := .int .u64 0) (v2 := .int .u64 0) (v3 := .int .u64 0) (v4 := .int .u64 0) (v5 := .int .u64 0) (v6 := .int .u64 0) (v7 := .int .u64 0) (v8 := .int .u64 0) (v9 := .int .u64 0) (v10 := .slice none 0 0) (v11 := .slice none 0 0) hR1
    refine bodyPost_ret (results_ct rfl _ _ (w.heap.size + 1) 34 _ (0, 0) _ rfl hfin Try.underlying34 rfl (by kernel_rfl)) rfl ?_
    exact ⟨⟨zeroB, none, 0, none, 0, 81, rfl, HWS.out, RowB.nil _ _, World.ownsRow_nil _ _ _ _, (zeroB_R w).ok⟩, below_set12 hbw (by simp)⟩
end Go.Proofs.Ytdpkommmkcmifaa
