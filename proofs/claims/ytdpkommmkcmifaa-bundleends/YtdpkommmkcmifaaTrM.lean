import Derived.Test.YtdpkommmkcmifaaRead
import Derived.Test.YtdpkommmkcmifaaOne
import Derived.Deep.CutRange
import Derived.Test.YtdpkommmkcmifaaBackN
namespace Go.Proofs.Ytdpkommmkcmifaa
set_option linter.unusedVariables false
set_option linter.unusedSimpArgs false
open Go.RowKit
/-- what lies in memory when Wrap has made its bundle -/
structure WrapRel (w wx : World) (tt s fr tm sq lf : Nat) (d : List UInt8) (L Q : Nat) (a1 a2 a3 : Option Addr) (c1 c2 c3 : Nat) : Prop where
  bel : Below w.heap.size w wx
  hL : w.heap.size ≤ L
  hQ : w.heap.size ≤ Q
  nLQ : L ≠ Q
  box : wx.heap[L]? = some (.cells #[.int .u64 5, .int .u64 (tt : Nat), .int .u64 (s : Nat), .int .u64 (fr : Nat), .int .u64 (s : Nat), .int .u64 (fr : Nat), .int .u64 0, .int .u64 (tm : Nat), .int .u64 (sq : Nat), .int .u64 (lf : Nat), .slice (some ⟨Q, 0, none⟩) 2 2, .slice a3 d.length c3] 34 (0, 0))
  row : wx.heap[Q]? = some (.cells #[.int .u64 10, .int .u64 2, .int .u64 0, .slice a1 2 c1, .int .u64 7, .int .u64 3, .int .u64 0, .slice a2 1 c2] 37 (0, 0))
  o1 : Own wx w.heap.size (.slice a1 2 c1) [8, 0]
  o2 : Own wx w.heap.size (.slice a2 1 c2) [0]
  o3 : Own wx w.heap.size (.slice a3 d.length c3) d
  n1 : ∀ q, a1 = some q → q.block ≠ Q ∧ q.block ≠ L
  n2 : ∀ q, a2 = some q → q.block ≠ Q ∧ q.block ≠ L
  n3 : ∀ q, a3 = some q → q.block ≠ Q ∧ q.block ≠ L
theorem own_neW {a : Option Addr} {n c r : Nat} (h : ∀ q, a = some q → q.block ≠ r) : (Value.slice a n c).ownBlock = none ∨ (Value.slice a n c).ownBlock ≠ some r := by
  cases a with
  | none => left; rfl
  | some q => right; simpa [Value.ownBlock] using h q rfl
theorem own_nbW {w : World} {B r : Nat} {v : Value} {xs : List UInt8} (h : Own w B v xs) (hr : r < B) : v.ownBlock = none ∨ v.ownBlock ≠ some r := by
  cases e : v.ownBlock with
  | none => left; rfl
  | some q => right; have := (World.ownsRow.lt h q e).1; simp; omega
theorem own_ltW {w : World} {B n c : Nat} {a : Option Addr} {xs : List UInt8} (h : Own w B (.slice a n c) xs) : ∀ q, a = some q → B ≤ q.block ∧ q.block < w.heap.size := by
  intro q hq
  subst hq
  exact World.ownsRow.lt h q.block rfl
theorem dgs_80 : [] ++ dgs [8, 0] = [8, 0] := by simp [dgs, dg, hiD, hiF_zero]
theorem dgs_0 : [] ++ dgs [0] = [0] := by simp [dgs, dg, hiD, hiF_zero]
theorem alloc_facts {w1 u v : World} {g : Nat} {o : Obj} (h : Hid (Below w1.heap.size w1 u)) (hv : v = u.alloc o) (hg : g = u.heap.size) : Below u.heap.size u v ∧ v.heap[g]? = some o ∧ w1.heap.size ≤ g ∧ Hid (Below w1.heap.size w1 v) := by
  have hb : Below u.heap.size u v := by rw [hv]; exact al (Below.refl _ _) _
  exact ⟨hb, by rw [hv, hg]; exact heap_alloc_new _ _, by rw [hg]; exact h.out.size, below_next h.out hb⟩
theorem own_new {u : World} {g B n c : Nat} {a : Option Addr} {xs : List UInt8} (hg : g = u.heap.size) (h : Hid (Own u B (.slice a n c) xs)) : ∀ q, a = some q → q.block ≠ g := fun q hq => by have := (own_ltW h.out q hq).2; omega
theorem box_new {u : World} {g L : Nat} {o : Obj} (hg : g = u.heap.size) (h : Hid (u.heap[L]? = some o)) : L ≠ g := by have := (Array.getElem?_eq_some_iff.1 h.out).1; omega
theorem own_old {u v : World} {L n c : Nat} {o : Obj} {a : Option Addr} {xs : List UInt8} (h : Hid (u.heap[L]? = some o)) (hn : Own v u.heap.size (.slice a n c) xs) : ∀ q, a = some q → q.block ≠ L := fun q hq => by have h1 := (own_ltW hn q hq).1; have h2 := (Array.getElem?_eq_some_iff.1 h.out).1; omega
theorem lay1 {u : World} {g : Nat} (h : RdU u (some ⟨g, 0, none⟩) [8, 0]) : Calls Try.prog 34 #[.slice none 0 0, .slice (some ⟨g, 0, none⟩) 2 2] u fun e v => ∃ a c, e = .returned (.slice a 2 c) ∧ Own v u.heap.size (.slice a 2 c) [8, 0] ∧ Below u.heap.size u v := by
  refine (lay_any none 0 [] _ 2 2 [8, 0] rfl _ (Rd.nil _ _) (fun _ => rfl) h (by intro n hn; simp at hn; omega) (by simp) (by simp) (by simp)).mono ?_
  rintro e v ⟨val, rfl, hown, hb⟩
  rw [dgs_80] at hown
  obtain ⟨a, c, hval, -⟩ := hown.val
  obtain rfl : val = .slice a 2 c := hval
  exact ⟨a, c, rfl, hown, hb⟩
theorem lay2 {u : World} {g : Nat} (h : RdU u (some ⟨g, 0, none⟩) [0]) : Calls Try.prog 34 #[.slice none 0 0, .slice (some ⟨g, 0, none⟩) 1 1] u fun e v => ∃ a c, e = .returned (.slice a 1 c) ∧ Own v u.heap.size (.slice a 1 c) [0] ∧ Below u.heap.size u v := by
  refine (lay_any none 0 [] _ 1 1 [0] rfl _ (Rd.nil _ _) (fun _ => rfl) h (by intro n hn; simp at hn; omega) (by simp) (by simp) (by simp)).mono ?_
  rintro e v ⟨val, rfl, hown, hb⟩
  rw [dgs_0] at hown
  obtain ⟨a, c, hval, -⟩ := hown.val
  obtain rfl : val = .slice a 1 c := hval
  exact ⟨a, c, rfl, hown, hb⟩
theorem rowB_two {wx : World} {B Q : Nat} {a1 a2 : Option Addr} {c1 c2 : Nat} (hQ : B ≤ Q) (row : wx.heap[Q]? = some (.cells #[.int .u64 10, .int .u64 2, .int .u64 0, .slice a1 2 c1, .int .u64 7, .int .u64 3, .int .u64 0, .slice a2 1 c2] 37 (0, 0))) (o1 : Own wx B (.slice a1 2 c1) [8, 0]) (o2 : Own wx B (.slice a2 1 c2) [0]) (n1 : ∀ q, a1 = some q → q.block ≠ Q) (n2 : ∀ q, a2 = some q → q.block ≠ Q) :
    RowB wx B (.slice (some ⟨Q, 0, none⟩) 2 2) [⟨10, 2, 0, [8, 0]⟩, ⟨7, 3, 0, [0]⟩] := by
  refine ⟨_, ⟨rfl, .inr ⟨Q, 2, _, rfl, hQ, row, Nat.le_refl _, by simp [maxLen], rfl, rfl⟩⟩, fun j hj => ?_⟩
  have hj2 : j = 0 ∨ j = 1 := by simp at hj; omega
  rcases hj2 with rfl | rfl
  · exact ⟨a1, c1, rfl, rfl, rfl, rfl, o1, own_neW n1⟩
  · exact ⟨a2, c2, rfl, rfl, rfl, rfl, o2, own_neW n2⟩
theorem with_all {P : Program} {md : Region.Mode} {ops : Array Oper} {Q : Exit → Act → World → Prop} {S : World → Prop} {n n' : Nat} {l : Array Bool} {a : Act} {w : World} (hn : n = n') (h : ∀ (O : Array Oper) (R : Exit → Act → World → Prop), Hid (O = ops) → Hid (R = Q) → wpAnyH P md O R S n' l a w) : wpAnyH P md ops Q S n l a w := by
  rw [hn]
  exact h ops Q rfl rfl
theorem wpAnyH_listed {P : Program} {md : Region.Mode} {ops : Array Oper} {Q : Exit → Act → World → Prop} {S : World → Prop} {n : Nat} {l l' : Array Bool} {a : Act} {w : World} (hl : l = l') (h : wpAnyH P md ops Q S n l' a w) : wpAnyH P md ops Q S n l a w := by
  rw [hl]
  exact h
theorem heap_lt {w : World} {g : Nat} {c : Obj} (h : w.heap[g]? = some c) : g < w.heap.size := (Array.getElem?_eq_some_iff.1 h).1
theorem wrap_leaf {w W : World} {tt s fr tm sq lf : Nat} {d : List UInt8} {L Q : Nat} {a1 a2 a3 : Option Addr} {c1 c2 c3 : Nat} (hb : Below w.heap.size w W) (hL : w.heap.size ≤ L) (hQ : w.heap.size ≤ Q)
    (nLQ : L ≠ Q) (box : W.heap[L]? = some (.cells #[.int .u64 0, .int .u64 0, .int .u64 0, .int .u64 0, .int .u64 0, .int .u64 0, .int .u64 0, .int .u64 0, .int .u64 0, .int .u64 0, .slice none 0 0, .slice none 0 0] 34 (0, 0))) (row : W.heap[Q]? = some (.cells #[.int .u64 10, .int .u64 2, .int .u64 0, .slice a1 2 c1, .int .u64 7, .int .u64 3, .int .u64 0, .slice a2 1 c2] 37 (0, 0))) (o1 : Own W w.heap.size (.slice a1 2 c1) [8, 0]) (o2 : Own W w.heap.size (.slice a2 1 c2) [0]) (o3 : Own W w.heap.size (.slice a3 d.length c3) d)
    (n1Q : ∀ q, a1 = some q → q.block ≠ Q) (n2Q : ∀ q, a2 = some q → q.block ≠ Q) (n3Q : ∀ q, a3 = some q → q.block ≠ Q) (n1L : ∀ q, a1 = some q → q.block ≠ L) (n2L : ∀ q, a2 = some q → q.block ≠ L) (n3L : ∀ q, a3 = some q → q.block ≠ L) :
    WrapRel w ((((((((((((W.setCell ⟨L, 0, none⟩ (.int .u64 5)).setCell ⟨L, 1, none⟩ (.int .u64 (tt : Nat))).setCell ⟨L, 2, none⟩ (.int .u64 (s : Nat))).setCell ⟨L, 3, none⟩ (.int .u64 (fr : Nat))).setCell ⟨L, 4, none⟩ (.int .u64 (s : Nat))).setCell ⟨L, 5, none⟩ (.int .u64 (fr : Nat))).setCell ⟨L, 6, none⟩ (.int .u64 0)).setCell ⟨L, 7, none⟩ (.int .u64 (tm : Nat))).setCell ⟨L, 8, none⟩ (.int .u64 (sq : Nat))).setCell ⟨L, 9, none⟩ (.int .u64 (lf : Nat))).setCell ⟨L, 10, none⟩ (.slice (some ⟨Q, 0, none⟩) 2 2)).setCell ⟨L, 11, none⟩ (.slice a3 d.length c3)) tt s fr tm sq lf d L Q a1 a2 a3 c1 c2 c3 :=
  ⟨below_set12 hb hL, hL, hQ, nLQ, heap_set12 box, gr_box gr_set12 (Ne.symm nLQ) row, Own.grown o1 gr_set12 (own_neW n1L), Own.grown o2 gr_set12 (own_neW n2L), Own.grown o3 gr_set12 (own_neW n3L), fun q hq => ⟨n1Q q hq, n1L q hq⟩, fun q hq => ⟨n2Q q hq, n2L q hq⟩, fun q hq => ⟨n3Q q hq, n3L q hq⟩⟩
theorem cells5W {W : World} {g : Nat} {t : TypeId} {v0 v1 v2 v3 v4 : Value} (h : W.heap[g]? = some (.cells #[v0, v1, v2, v3, v4] t (0, 0))) : W.cell? ⟨g, 0, none⟩ = some v0 ∧ W.cell? ⟨g, 1, none⟩ = some v1 ∧ W.cell? ⟨g, 2, none⟩ = some v2 ∧ W.cell? ⟨g, 3, none⟩ = some v3 ∧ W.cell? ⟨g, 4, none⟩ = some v4 ∧ True :=
  ⟨by rw [cell_of_row W g 0 _ t _ h]; rfl, by rw [cell_of_row W g 1 _ t _ h]; rfl, by rw [cell_of_row W g 2 _ t _ h]; rfl, by rw [cell_of_row W g 3 _ t _ h]; rfl, by rw [cell_of_row W g 4 _ t _ h]; rfl, trivial⟩
theorem box5c {W : World} {g : Nat} {t : TypeId} {v0 v1 v2 v3 v4 : Value} (h : W.heap[g]? = some (.cells #[v0, v1, v2, v3, v4] t (0, 0))) : ∀ i v, #[v0, v1, v2, v3, v4][i]? = some v → ∀ u, Below W.heap.size W u → u.cell? ⟨g, i, none⟩ = some v := by
  intro i v hi u hu
  rw [cell_of_row u g i _ t _ (box_on h hu)]
  exact hi
/-- does a frame fit, its data aside -/
abbrev fitF (st : Int) (tm sq lf : Nat) : Prop := 0 ≤ st ∧ st < 8 ∧ tm ≤ 281474976710655 ∧ sq ≤ 281474976710655 ∧ lf ≤ 281474976710655
def wrB (st : Int) (tm sq lf : Nat) (d : List UInt8) (fr tt : Nat) (nw : Bool) : Bun := ⟨if nw = true then 7 else 5, tt, st.toNat, fr, st.toNat, fr, 0, tm, sq, lf, [⟨10, 2, 0, [8, 0]⟩, ⟨7, 3, 0, [0]⟩], d⟩
/-- what Wrap answers -/
def wrapS (st : Int) (tm sq lf : Nat) (d : List UInt8) (fr tt : Nat) (nw : Bool) : Bun × Int :=
  if ¬ (fitF st tm sq lf ∧ fr ≤ 281474976710655 ∧ tt ≤ 281474976710655) then (zeroB, 1) else if 512 < d.length then (zeroB, 81) else (wrB st tm sq lf d fr tt nw, 0)
def WrapOut (w w' : World) (r : Bun × Int) (e : Ending) : Prop :=
  ∃ o a c pa pc n, e = .returned (.tuple #[bunV o a c pa pc, .int .i64 n]) ∧ r = (o, n) ∧ RowB w' w.heap.size (.slice a o.bl.length c) o.bl ∧ Own w' w.heap.size (.slice pa o.py.length pc) o.py ∧ o.ok
end Go.Proofs.Ytdpkommmkcmifaa
namespace Go.Proofs.Ytdpkommmkcmifaa
set_option linter.unusedVariables false
set_option linter.unusedSimpArgs false
open Go.RowKit
theorem dgs80 : dgs [8, 0] = [8, 0] := by have := dgs_80; simpa using this
theorem dgs00 : dgs [0] = [0] := by have := dgs_0; simpa using this
theorem wr_blks : GoodBlks [⟨10, 2, 0, [8, 0]⟩, ⟨7, 3, 0, [0]⟩] := by
  refine ⟨by decide, fun i hi => ?_⟩
  have h10 : dataS 10 [8, 0] = true := by
    have h := hop_new 8 0 (by decide) (by decide) (by decide)
    rw [dgs80] at h
    unfold dataS holdsS
    simp [h]
  have h7 : dataS 7 [0] = true := by
    have h := age_new 0 (by decide)
    rw [dgs00] at h
    unfold dataS holdsS
    simp [h]
  have hi2 : i = 0 ∨ i = 1 := by simp at hi; omega
  rcases hi2 with rfl | rfl
  · unfold blkS
    simp [h10, typeS, numbS, knownB, placeS]
  · unfold blkS
    simp [h7, typeS, numbS, knownB, placeS]
/-- a wrapped frame is a good bundle -/
theorem wrB_good {st : Int} {tm sq lf : Nat} {d : List UInt8} {fr tt : Nat} {nw : Bool} (hf : fitF st tm sq lf) (h1 : fr ≤ 281474976710655) (h2 : tt ≤ 281474976710655) (hd : d.length ≤ 512) : GoodB (wrB st tm sq lf d fr tt nw) := by
  obtain ⟨g1, g2, g3, g4, g5⟩ := hf
  refine ⟨?_, ?_, ?_, wr_blks, hd⟩
  · unfold wrB
    simp only
    split <;> decide
  · unfold wrB numsS
    simp
    omega
  · unfold wrB numsS
    simp
    omega
theorem wrB_ok {st : Int} {tm sq lf : Nat} {d : List UInt8} {fr tt : Nat} {nw : Bool} (hf : fitF st tm sq lf) (h1 : fr ≤ 281474976710655) (h2 : tt ≤ 281474976710655) (hd : d.length ≤ 512) : (wrB st tm sq lf d fr tt nw).ok := by
  obtain ⟨g1, g2, g3, g4, g5⟩ := hf
  refine ⟨?_, ?_, ?_, ?_, ?_, ?_, ?_, ?_, ?_, ?_, ?_, ?_, ?_⟩ <;> unfold wrB <;> simp only
  · split <;> omega
  · omega
  · omega
  · omega
  · omega
  · omega
  · omega
  · omega
  · omega
  · omega
  · intro x hx
    simp at hx
    rcases hx with rfl | rfl <;> exact ⟨by decide, by decide, by decide, by decide⟩
  · decide
  · omega
theorem wrB_len {st : Int} {tm sq lf : Nat} {d : List UInt8} {fr tt : Nat} {nw : Bool} (hf : fitF st tm sq lf) (h1 : fr ≤ 281474976710655) (h2 : tt ≤ 281474976710655) (hd : d.length ≤ 512) : (encB (wrB st tm sq lf d fr tt nw)).length ≤ 1024 := by
  have hok := wrB_ok (nw := nw) hf h1 h2 hd
  have hh := dgs_len _ (hdr_lt hok)
  have hb := encBlks_len (wrB st tm sq lf d fr tt nw).bl (fun x hx => ⟨hok.bl x hx, by unfold wrB at hx; simp at hx; rcases hx with rfl | rfl <;> simp⟩)
  have hp := (dg_len (wrB st tm sq lf d fr tt nw).py.length (by have := hok.py; omega)).2
  have hl : (wrB st tm sq lf d fr tt nw).bl.length = 2 := rfl
  have hy : (wrB st tm sq lf d fr tt nw).py.length = d.length := rfl
  unfold encB
  simp only [List.length_append]
  simp only [List.length_cons, List.length_nil] at hh ⊢
  omega
end Go.Proofs.Ytdpkommmkcmifaa
namespace Go.Proofs.Ytdpkommmkcmifaa
set_option linter.unusedVariables false
set_option linter.unusedSimpArgs false
open Go.RowKit
theorem small_enc : encB (wrB 1 300 2 50 [7, 8, 9] 4 5 true) = [6, 7, 5, 1, 4, 1, 4, 0, 0x82, 0x2c, 2, 0x32, 2, 0x0a, 2, 0, 2, 8, 0, 7, 3, 0, 1, 0, 3, 7, 8, 9] := by decide
/-- a wrapped frame's bundle on its way -/
def trB (fl tt s fr tm sq lf : Nat) (h a d : List UInt8) : Bun := ⟨fl, tt, s, fr, s, fr, 0, tm, sq, lf, [⟨10, 2, 0, h⟩, ⟨7, 3, 0, a⟩], d⟩
theorem wrB_tr (st : Int) (tm sq lf : Nat) (d : List UInt8) (fr tt : Nat) (nw : Bool) : wrB st tm sq lf d fr tt nw = trB (if nw = true then 7 else 5) tt st.toNat fr tm sq lf [8, 0] [0] d := rfl
structure TrOk (fl tt s fr tm sq lf : Nat) (h a d : List UInt8) : Prop where
  fl : fl < 8
  tt : tt ≤ 281474976710655
  s : s < 8
  fr : fr ≤ 281474976710655
  tm : tm ≤ 281474976710655
  sq : sq ≤ 281474976710655
  lf : lf ≤ 281474976710655
  h : dataS 10 h = true
  a : dataS 7 a = true
  d : d.length ≤ 512
theorem data64 {t : Nat} {x : List UInt8} (h : dataS t x = true) : x.length ≤ 64 := by unfold dataS at h; simp at h; exact h.1
section
variable {fl tt s fr tm sq lf : Nat} {h a d : List UInt8}
theorem TrOk.good (k : TrOk fl tt s fr tm sq lf h a d) : GoodB (trB fl tt s fr tm sq lf h a d) := by
  obtain ⟨k1, k2, k3, k4, k5, k6, k7, k8, k9, k10⟩ := k
  refine ⟨k1, ?_, ?_, ⟨by simp [trB], fun i hi => ?_⟩, k10⟩
  · unfold trB numsS
    simp
    omega
  · unfold trB numsS
    simp
    omega
  · have hi2 : i = 0 ∨ i = 1 := by simp [trB] at hi; omega
    rcases hi2 with rfl | rfl
    · show blkS [] ⟨10, 2, 0, h⟩ = true
      unfold blkS
      simp [k8, typeS, numbS, knownB, placeS]
    · show blkS [⟨10, 2, 0, h⟩] ⟨7, 3, 0, a⟩ = true
      unfold blkS
      simp [k9, typeS, numbS, knownB, placeS]
theorem TrOk.bok (k : TrOk fl tt s fr tm sq lf h a d) : (trB fl tt s fr tm sq lf h a d).ok := by
  have hh := data64 k.h
  have ha := data64 k.a
  obtain ⟨k1, k2, k3, k4, k5, k6, k7, k8, k9, k10⟩ := k
  refine ⟨?_, ?_, ?_, ?_, ?_, ?_, ?_, ?_, ?_, ?_, ?_, ?_, ?_⟩ <;> unfold trB <;> simp only
  · omega
  · omega
  · omega
  · omega
  · omega
  · omega
  · omega
  · omega
  · omega
  · omega
  · intro x hx
    simp at hx
    rcases hx with rfl | rfl
    · exact ⟨show (10 : Nat) < _ by decide, show (2 : Nat) < _ by decide, show (0 : Nat) < _ by decide, show h.length ≤ _ by omega⟩
    · exact ⟨show (7 : Nat) < _ by decide, show (3 : Nat) < _ by decide, show (0 : Nat) < _ by decide, show a.length ≤ _ by omega⟩
  · exact (show (2 : Nat) ≤ 2932031007317 by decide)
  · omega
theorem TrOk.len (k : TrOk fl tt s fr tm sq lf h a d) : (encB (trB fl tt s fr tm sq lf h a d)).length ≤ 1024 := by
  have hok := k.bok
  have hh := dgs_len _ (hdr_lt hok)
  have hb := encBlks_len (trB fl tt s fr tm sq lf h a d).bl (fun x hx => ⟨hok.bl x hx, by unfold trB at hx; simp at hx; rcases hx with rfl | rfl; exact data64 k.h; exact data64 k.a⟩)
  have hp := (dg_len (trB fl tt s fr tm sq lf h a d).py.length (by have := hok.py; omega)).2
  have hl : (trB fl tt s fr tm sq lf h a d).bl.length = 2 := rfl
  have hy : (trB fl tt s fr tm sq lf h a d).py.length = d.length := rfl
  have hd := k.d
  unfold encB
  simp only [List.length_append]
  simp only [List.length_cons, List.length_nil] at hh ⊢
  omega
theorem TrOk.fits (k : TrOk fl tt s fr tm sq lf h a d) : fitsS (trB fl tt s fr tm sq lf h a d) = 0 := by
  unfold fitsS
  rw [if_neg (by have := k.len; omega)]
theorem TrOk.valid (k : TrOk fl tt s fr tm sq lf h a d) : ValidIs (trB fl tt s fr tm sq lf h a d) 0 := .inr ⟨k.good, k.fits.symm⟩
theorem TrOk.dec (k : TrOk fl tt s fr tm sq lf h a d) : decS (encB (trB fl tt s fr tm sq lf h a d)) = (trB fl tt s fr tm sq lf h a d, 0) := decS_enc _ k.good k.bok k.len
theorem tr_place10 : placeS (trB fl tt s fr tm sq lf h a d).bl 10 = 0 := by unfold trB placeS; rfl
theorem tr_place7 : placeS (trB fl tt s fr tm sq lf h a d).bl 7 = 1 := by unfold trB placeS; rfl
/-- a hop on the way -/
theorem TrOk.hop (k : TrOk fl tt s fr tm sq lf h a d) {o : Bun} {n : Int} (t : TurnIs (trB fl tt s fr tm sq lf h a d) 10 hopTurn o n) : (n = 6 ∧ hopTurn h = none) ∨ (n = 0 ∧ ∃ h', hopTurn h = some h' ∧ TrOk fl tt s fr tm sq lf h' a d ∧ o = trB fl tt s fr tm sq lf h' a d) := by
  rcases t with ⟨t1, t2, -⟩ | ⟨-, t2, -⟩ | ⟨-, i, hi, t2, t3, rfl, -⟩ | ⟨-, i, hi, t2, e, t3, t4, t5⟩
  · exact absurd (t1.same k.valid) t2
  · rw [tr_place10] at t2; cases t2
  · rw [tr_place10] at t2
    obtain rfl : i = 0 := by omega
    exact .inl ⟨rfl, t3⟩
  · rw [tr_place10] at t2
    obtain rfl : i = 0 := by omega
    have t3' : hopTurn h = some e := t3
    have k' : TrOk fl tt s fr tm sq lf e a d := ⟨k.fl, k.tt, k.s, k.fr, k.tm, k.sq, k.lf, hopTurn_ok k.h t3', k.a, k.d⟩
    have hs : setD (trB fl tt s fr tm sq lf h a d) 0 e = trB fl tt s fr tm sq lf e a d := rfl
    rw [hs] at t4 t5
    rw [k'.fits] at t4
    subst t4
    rw [if_pos rfl] at t5
    exact .inr ⟨rfl, e, t3', k', t5⟩
theorem TrOk.age {x : Nat} (k : TrOk fl tt s fr tm sq lf h a d) {o : Bun} {n : Int} (t : TurnIs (trB fl tt s fr tm sq lf h a d) 7 (ageTurn x) o n) : (n = 6 ∧ ageTurn x a = none) ∨ (n = 0 ∧ ∃ a', ageTurn x a = some a' ∧ TrOk fl tt s fr tm sq lf h a' d ∧ o = trB fl tt s fr tm sq lf h a' d) := by
  rcases t with ⟨t1, t2, -⟩ | ⟨-, t2, -⟩ | ⟨-, i, hi, t2, t3, rfl, -⟩ | ⟨-, i, hi, t2, e, t3, t4, t5⟩
  · exact absurd (t1.same k.valid) t2
  · rw [tr_place7] at t2; cases t2
  · rw [tr_place7] at t2
    obtain rfl : i = 1 := by omega
    exact .inl ⟨rfl, t3⟩
  · rw [tr_place7] at t2
    obtain rfl : i = 1 := by omega
    have t3' : ageTurn x a = some e := t3
    have k' : TrOk fl tt s fr tm sq lf h e d := ⟨k.fl, k.tt, k.s, k.fr, k.tm, k.sq, k.lf, k.h, ageTurn_ok t3', k.d⟩
    have hs : setD (trB fl tt s fr tm sq lf h a d) 1 e = trB fl tt s fr tm sq lf h e d := rfl
    rw [hs] at t4 t5
    rw [k'.fits] at t4
    subst t4
    rw [if_pos rfl] at t5
    exact .inr ⟨rfl, e, t3', k', t5⟩
end
end Go.Proofs.Ytdpkommmkcmifaa
