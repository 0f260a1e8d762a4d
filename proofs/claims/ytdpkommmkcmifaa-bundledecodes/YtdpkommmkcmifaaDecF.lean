import Derived.Test.YtdpkommmkcmifaaRead
import Derived.Test.YtdpkommmkcmifaaZb
namespace Go.Proofs.Ytdpkommmkcmifaa
set_option linter.unusedVariables false
set_option linter.unusedSimpArgs false
open Go.RowKit
/-- what Decode answers -/
def decS (xs : List UInt8) : Bun × Int :=
  if 1024 < xs.length then (zeroB, 81) else if rEnd (readS (xs, 0)).2.1 (readS (xs, 0)).2.2 = 0 then ((readS (xs, 0)).1, 0) else (zeroB, rEnd (readS (xs, 0)).2.1 (readS (xs, 0)).2.2)
theorem bunR_of {w : World} {B : Nat} {o : Bun} {a pa : Option Addr} {c pc : Nat} (h1 : RowB w B (.slice a o.bl.length c) o.bl) (h2 : Own w B (.slice pa o.py.length pc) o.py) (h3 : o.ok) : BunR w o a c pa pc := by
  obtain ⟨k1, k2, k3, -⟩ := h1.rd
  obtain ⟨aq, cq, hv, hl, -, hn, hr, -⟩ := h2.val
  simp only [Value.slice.injEq, true_and] at hv
  obtain ⟨rfl, rfl⟩ := hv
  exact ⟨k1, k2, k3, hr, hl, hn, h3⟩
/-- what Decode answers, with its memory -/
def DecOut (w w' : World) (xs : List UInt8) (e : Ending) : Prop :=
  ∃ o a c pa pc n, e = .returned (.tuple #[bunV o a c pa pc, .int .i64 n]) ∧ decS xs = (o, n) ∧ RowB w' w.heap.size (.slice a o.bl.length c) o.bl ∧ Own w' w.heap.size (.slice pa o.py.length pc) o.py ∧ o.ok
theorem RowB.base {w : World} {B B' : Nat} {v : Value} {l : List Blk} (h : RowB w B v l) (hB : B' ≤ B) : RowB w B' v l := by
  obtain ⟨cells, h1, h2⟩ := h
  refine ⟨cells, ⟨h1.1, ?_⟩, fun j hj => ?_⟩
  · rcases h1.2 with h0 | ⟨g, cap, cur, hv, hg, r⟩
    · exact .inl h0
    · exact .inr ⟨g, cap, cur, hv, Nat.le_trans hB hg, r⟩
  · obtain ⟨a, c, k0, k1, k2, k3, k4, k5⟩ := h2 j hj
    exact ⟨a, c, k0, k1, k2, k3, k4.base hB, k5⟩
set_option maxRecDepth 20000 in
set_option maxHeartbeats 1600000 in
theorem decode_any (ao : Option Addr) (cap : Nat) (xs : List UInt8) (w : World) (hx : Rd w ao xs) (hnil : ao = none → cap = 0) (hl : xs.length ≤ 140737488355328) :
    Calls Try.prog 19 #[.slice ao xs.length cap] w fun e w' => DecOut w w' xs e ∧ Below w.heap.size w w' := by
  have HN : Hid (ao = none → cap = 0) := hnil
  clear hnil
  obtain ⟨W0, hW0⟩ : ∃ W0 : World, W0 = w.alloc (.cells #[.int .u64 0, .int .u64 0, .int .u64 0, .int .u64 0, .int .u64 0, .int .u64 0, .int .u64 0, .int .u64 0, .int .u64 0, .int .u64 0, .slice none 0 0, .slice none 0 0] 34) := ⟨_, rfl⟩
  have hR : W0.heap[w.heap.size]? = some (.cells #[.int .u64 0, .int .u64 0, .int .u64 0, .int .u64 0, .int .u64 0, .int .u64 0, .int .u64 0, .int .u64 0, .int .u64 0, .int .u64 0, .slice none 0 0, .slice none 0 0] 34 (0, 0)) := by rw [hW0]; exact heap_alloc_new w _
  have hb0 : Below w.heap.size w W0 := by rw [hW0]; exact al (Below.refl _ _) _
  have hs0 : w.heap.size < W0.heap.size := (Array.getElem?_eq_some_iff.1 hR).1
  by_cases h1 : 1024 < xs.length
  · have HD : Hid (decS xs = (zeroB, 81)) := by unfold Hid decS; rw [if_pos h1]
    go_enter Try.func19, Try.ntmps19
    go_wp2
    refine bodyPost_ret (results_ct rfl _ _ w.heap.size 34 _ (0, 0) _ rfl (heap_alloc_new w _) Try.underlying34 rfl (by kernel_rfl)) rfl ?_
    exact ⟨⟨zeroB, none, 0, none, 0, 81, rfl, HD.out, RowB.nil _ _, World.ownsRow_nil _ _ _ _, (zeroB_R w).ok⟩, al (Below.refl _ _) _⟩
  have h1I : ¬ (1024 : Int) < (xs.length : Int) := by omega
  obtain ⟨o, y, g, eR⟩ : ∃ o y g, readS (xs, 0) = (o, y, g) := ⟨_, _, _, rfl⟩
  have HD : Hid (decS xs = if rEnd y g = 0 then (o, 0) else (zeroB, rEnd y g)) := by unfold Hid decS; rw [if_neg h1, eR]
  go_enter Try.func19, Try.ntmps19
  go_wp2_with fail
  rw [← hW0]
  clear hW0
  refine (new_s ao cap xs W0 (hx.below hb0) HN.out hl).mono ?_
  rintro e w1 ⟨p, rfl, hrs, hb1⟩
  have hR := box_on hR hb1
  have hbw := below_next hb0 hb1
  have hpge := hrs.ge
  have hplt := hrs.lt
  go_wp2_with fail
  refine (read_t w1 hrs eR).mono ?_
  rintro e w2 ⟨⟨a, c, pa, pc, rfl, hrow, hown, hok, hl8⟩, hrs, hg⟩
  unfold bunV
  have hR := gr_box hg (by omega) hR
  have hbw : Below w.heap.size w w2 := hbw.grown hg hbw.size (fun q hq => by cases hq; omega)
  have hs1 := hb1.size
  obtain ⟨W2, hW2⟩ : ∃ W2 : World, W2 = w2.alloc (.cells #[.int .u64 o.fl, .int .u64 o.e0, .int .u64 o.e1, .int .u64 o.e2, .int .u64 o.e3, .int .u64 o.e4, .int .u64 o.e5, .int .u64 o.tm, .int .u64 o.sq, .int .u64 o.lf, .slice a o.bl.length c, .slice pa o.py.length pc] 34) := ⟨_, rfl⟩
  have hX2 : W2.heap[w2.heap.size]? = some (.cells #[.int .u64 o.fl, .int .u64 o.e0, .int .u64 o.e1, .int .u64 o.e2, .int .u64 o.e3, .int .u64 o.e4, .int .u64 o.e5, .int .u64 o.tm, .int .u64 o.sq, .int .u64 o.lf, .slice a o.bl.length c, .slice pa o.py.length pc] 34 (0, 0)) := by rw [hW2]; exact heap_alloc_new w2 _
  have hb2 : Below w2.heap.size w2 W2 := by rw [hW2]; exact al (Below.refl _ _) _
  have hR := box_on hR hb2
  have hbw := below_next hbw hb2
  have HROW : Hid (RowB W2 (w1.heap.size + 1) (.slice a o.bl.length c) o.bl) := hrow.below hb2
  have HOWN : Hid (Own W2 (w1.heap.size + 1) (.slice pa o.py.length pc) o.py) := hown.below hb2
  have hrs := hrs.below hb2
  have hplt2 := hg.size
  have HOK : Hid o.ok := hok
  clear hrow hown hok hl8 hg hx
  go_wp2_with fail
  rw [← hW2]
  clear hW2
  refine (end_s W2 hrs).mono ?_
  rintro e w3 ⟨rfl, hrs3, hg3⟩
  have hR := gr_box hg3 (by omega) hR
  have hX3 := gr_box hg3 (show w2.heap.size ≠ p by omega) hX2
  have hbw : Below w.heap.size w w3 := hbw.grown hg3 hbw.size (fun q hq => by cases hq; omega)
  have HROW3 : Hid (RowB w3 (w1.heap.size + 1) (.slice a o.bl.length c) o.bl) := HROW.out.grown hg3 (by omega)
  have HOWN3 : Hid (Own w3 (w1.heap.size + 1) (.slice pa o.py.length pc) o.py) := Own.grown HOWN.out hg3 (by
    cases e : (Value.slice pa o.py.length pc).ownBlock with
    | none => left; rfl
    | some q => right; have := (World.ownsRow.lt HOWN.out q e).1; simp; omega)
  obtain ⟨n, hn⟩ : ∃ n, n = rEnd y g := ⟨_, rfl⟩
  rw [← hn] at HD
  rw [← hn]
  clear hn hrs3 hrs hg3 HROW HOWN
  obtain ⟨r0, r1, r2, r3, r4, r5, r6, r7, r8, r9, r10, r11, g0, g1, g2, g3, g4, g5, g6, g7, g8, g9, g10, g11⟩ := cells12 hR
  by_cases h0 : n = 0
  rotate_left
  · have HD2 : Hid (decS xs = (zeroB, n)) := by unfold Hid; rw [HD.out, if_neg h0]
    go_wp2
    have hfin := heap_set12 (v0 := .int .u64 0) (v1 := .int .u64 0) (v2 := .int .u64 0) (v3 := .int .u64 0) (v4 := .int .u64 0) (v5 := .int .u64 0) (v6 := .int .u64 0) (v7 := .int .u64 0) (v8 := .int .u64 0) (v9 := .int .u64 0) (v10 := .slice none 0 0) (v11 := .slice none 0 0) hR
    refine bodyPost_ret (results_ct rfl _ _ w.heap.size 34 _ (0, 0) _ rfl hfin Try.underlying34 rfl (by kernel_rfl)) rfl ?_
    exact ⟨⟨zeroB, none, 0, none, 0, n, rfl, HD2.out, RowB.nil _ _, World.ownsRow_nil _ _ _ _, (zeroB_R w).ok⟩, below_set12 hbw (Nat.le_refl _)⟩
  subst h0
  have HD2 : Hid (decS xs = (o, 0)) := by unfold Hid; rw [HD.out, if_pos rfl]
  obtain ⟨i0, i1, i2, i3, i4, i5, i6, i7, i8, i9, i10, i11, -⟩ := cells12 hX3
  go_wp2
  have hfin := heap_set12 (v0 := .int .u64 o.fl) (v1 := .int .u64 o.e0) (v2 := .int .u64 o.e1) (v3 := .int .u64 o.e2) (v4 := .int .u64 o.e3) (v5 := .int .u64 o.e4) (v6 := .int .u64 o.e5) (v7 := .int .u64 o.tm) (v8 := .int .u64 o.sq) (v9 := .int .u64 o.lf) (v10 := .slice a o.bl.length c) (v11 := .slice pa o.py.length pc) hR
  refine bodyPost_ret (results_ct rfl _ _ w.heap.size 34 _ (0, 0) _ rfl hfin Try.underlying34 rfl (by kernel_rfl)) rfl ?_
  refine ⟨⟨o, a, c, pa, pc, 0, rfl, HD2.out, RowB.base (HROW3.out.grown gr_set12 (by omega)) (by omega), Own.base (Own.grown HOWN3.out gr_set12 ?_) (by omega), HOK.out⟩, below_set12 hbw (Nat.le_refl _)⟩
  cases e : (Value.slice pa o.py.length pc).ownBlock with
  | none => left; rfl
  | some q => right; have := (World.ownsRow.lt HOWN3.out q e).1; simp; omega
end Go.Proofs.Ytdpkommmkcmifaa
