import Derived.Test.YtdpkommmkcmifaaDecX
import Derived.Test.YtdpkommmkcmifaaDecF
import Derived.Deep.CutRange
import Derived.LoopN
namespace Go.Proofs.Ytdpkommmkcmifaa
set_option linter.unusedVariables false
set_option linter.unusedSimpArgs false
open Go.RowKit
theorem heap_drew (w : World) (g : Nat) : w.drew.heap[g]? = w.heap[g]? := rfl
theorem rTake_one (ys : List UInt8) (f : Int) : (rTake 1 ys f).1.length ≤ 1 := by
  unfold rTake
  split
  · split
    · simp
    · split
      · simp
      · simp only [List.length_take]
        omega
  · simp
theorem RowD.far {w : World} {B n c m c5 : Nat} {a a5 : Option Addr} {l : List Blk} (h : RowD w B (.slice a n c) l) (hf : ∀ q, a5 = some q → w.heap.size < q.block) : (Value.slice a5 m c5).ownBlock = none ∨ (Value.slice a5 m c5).ownBlock ≠ (Value.slice a n c).ownBlock := by
  cases a5 with
  | none => left; rfl
  | some q =>
    right
    have h1 := hf q rfl
    have h2 := h.rd.2.2.2
    cases a with
    | none => simp [Value.ownBlock]
    | some z => have := (h2 z rfl).2; simp [Value.ownBlock]; omega
theorem wpo_appM {w : World} {o : Oper} {a : Act} {K : Act → World → Prop} {Q : Exit → Act → World → Prop} {n : Nat} {l : List Blk} (hn : n = l.length) (s x : Operand)
    (ho : o.op = .call { callee := .builtin .append, args := #[s, x], argTypes := #[26, 26] }) (B : Nat) (v : Value) (b : Blk) (da : Option Addr) (dc g : Nat)
    (hs : a.eval s = v) (hrow : RowD w B v l) (hx : a.eval x = .slice (some ⟨g, 0, none⟩) 1 1) (hg : w.heap[g]? = some (.cells #[.int .u64 b.t, .int .u64 b.n, .int .u64 b.f, .slice da b.d.length dc] 40 (0, 0)))
    (hd : Own w B (.slice da b.d.length dc) b.d) (hne : (Value.slice da b.d.length dc).ownBlock = none ∨ (Value.slice da b.d.length dc).ownBlock ≠ v.ownBlock)
    (hb : l.length ≤ 1000) (hbase : B ≤ w.heap.size)
    (h : ∀ g' cap w', RowD w' B (.slice (some ⟨g', 0, none⟩) (n + 1) cap) (l ++ [b]) → w.grownBy w' v.ownBlock → (v.ownBlock = some g' ∨ g' = w.heap.size) → K (a.put o.dst (.slice (some ⟨g', 0, none⟩) (n + 1) cap)) w') : Oper.wp Try.prog o a w K Q := by
  subst hn
  exact wpo_appD s x ho B v l b da dc g hs hrow hx hg hd hne hb hbase h
theorem bunR_ofD {w : World} {B : Nat} {o : Bun} {a pa : Option Addr} {c pc : Nat} (h1 : RowD w B (.slice a o.bl.length c) o.bl) (h2 : Own w B (.slice pa o.py.length pc) o.py) (h3 : o.ok) : BunR w o a c pa pc := by
  obtain ⟨k1, k2, k3, -⟩ := h1.rd
  obtain ⟨aq, cq, hv, hl, -, hn, hr, -⟩ := h2.val
  simp only [Value.slice.injEq, true_and] at hv
  obtain ⟨rfl, rfl⟩ := hv
  exact ⟨k1, k2, k3, hr, hl, hn, h3⟩
/-- what the document's Decode answers, with its memory -/
def DecOutD (w w' : World) (xs : List UInt8) (e : Ending) : Prop :=
  ∃ o a c pa pc n, e = .returned (.tuple #[bunV o a c pa pc, .int .i64 n]) ∧ decS xs = (o, n) ∧ BunR w' o a c pa pc ∧ ∀ q, a = some q → w.heap.size ≤ q.block
theorem own_nb {w : World} {B r : Nat} {v : Value} {xs : List UInt8} (h : Own w B v xs) (hr : r < B) : v.ownBlock = none ∨ v.ownBlock ≠ some r := by
  cases e : v.ownBlock with
  | none => left; rfl
  | some q => right; have := (World.ownsRow.lt h q e).1; simp; omega
theorem one8 (b : UInt8) : ((b.toNat : Int) == 6) = ([b] == [6]) := by
  by_cases h : b = 6
  · subst h; decide
  · have h2 : ¬ (b.toNat : Int) = 6 := fun e => h (UInt8.toNat_inj.1 (by simp; omega))
    have h3 : ([b] == [6]) = false := by simp [h]
    rw [h3]
    simpa using h2
set_option maxRecDepth 20000 in
set_option maxHeartbeats 6400000 in
theorem decodeRef_any (ao : Option Addr) (cap : Nat) (xs : List UInt8) (w : World) (hx : Rd w ao xs) (hnil : ao = none → cap = 0) (hl : xs.length ≤ 140737488355328) :
    Calls Try.prog 20 #[.slice ao xs.length cap] w fun e w' => DecOutD w w' xs e ∧ Below w.heap.size w w' := by
  have HN : Hid (ao = none → cap = 0) := hnil
  clear hnil
  obtain ⟨W0, hW0⟩ : ∃ W0 : World, W0 = w.alloc (.cells #[.int .u64 0, .int .u64 0, .int .u64 0, .int .u64 0, .int .u64 0, .int .u64 0, .int .u64 0, .int .u64 0, .int .u64 0, .int .u64 0, .slice none 0 0, .slice none 0 0] 29) := ⟨_, rfl⟩
  have hQ : W0.heap[w.heap.size]? = some (.cells #[.int .u64 0, .int .u64 0, .int .u64 0, .int .u64 0, .int .u64 0, .int .u64 0, .int .u64 0, .int .u64 0, .int .u64 0, .int .u64 0, .slice none 0 0, .slice none 0 0] 29 (0, 0)) := by rw [hW0]; exact heap_alloc_new w _
  have hb0 : Below w.heap.size w W0 := by rw [hW0]; exact al (Below.refl _ _) _
  have hs0 : w.heap.size < W0.heap.size := (Array.getElem?_eq_some_iff.1 hQ).1
  by_cases h1 : 1024 < xs.length
  · have HD : Hid (decS xs = (zeroB, 81)) := by unfold Hid decS; rw [if_pos h1]
    go_enter Try.func20, Try.ntmps20
    go_wp2
    refine bodyPost_ret (results_ct rfl _ _ w.heap.size 29 _ (0, 0) _ rfl (heap_alloc_new w _) Try.underlying29 rfl (by kernel_rfl)) rfl ?_
    exact ⟨⟨zeroB, none, 0, none, 0, 81, rfl, HD.out, zeroB_R _, fun q hq => by cases hq⟩, al (Below.refl _ _) _⟩
  have h1I : ¬ (1024 : Int) < (xs.length : Int) := by omega
  obtain ⟨o, yR, gR, eR⟩ : ∃ o y g, readS (xs, 0) = (o, y, g) := ⟨_, _, _, rfl⟩
  have HD : Hid (decS xs = if rEnd yR gR = 0 then (o, 0) else (zeroB, rEnd yR gR)) := by unfold Hid decS; rw [if_neg h1, eR]
  have HER : Hid (readS (xs, 0) = (o, yR, gR)) := eR
  clear eR
  go_enter Try.func20, Try.ntmps20
  go_wp2_with fail
  rw [← hW0]
  clear hW0
  refine (newX ao cap xs W0 (hx.below hb0) HN.out hl).mono ?_
  rintro e w1 ⟨q, rfl, hrs, hb1⟩
  have hQ := box_on hQ hb1
  have hbw := below_next hb0 hb1
  obtain ⟨hBq, hqN⟩ := hrs.lt
  have hgw : w1.grownBy w1 (some q) := World.grownBy.refl _ _
  obtain ⟨t, y0, f0, e0⟩ : ∃ t y0 f0, tkS 1 (xs, 0) = (t, y0, f0) := ⟨_, _, _, rfl⟩
  have ht1 : t.length ≤ 1 := by
    have h2 := e0
    unfold tkS at h2
    simp only [Prod.mk.injEq] at h2
    rw [← h2.1]
    exact rTake_one _ _
  go_wp2_with fail
  refine (take_x 1 _ hrs e0).mono ?_
  rintro e u0 ⟨ta, tc, rfl, hown, hrs, hg⟩
  have HE0 : Hid (tkS 1 (xs, 0) = (t, y0, f0)) := e0
  have hgw := grown_add hgw hg (.inl rfl)
  have hQ := gr_box hg (by omega) hQ
  have hrd := Rd.of_ownD hown
  obtain ⟨tl, htl⟩ : ∃ tl, tl = t.length := ⟨_, rfl⟩
  rw [← htl]
  clear e0 hg hown hx
  go_upto_region 5 with fail
  go_cut [] from 18 to 28 (fun wx => DX wx q W0.heap.size w1.heap.size y0 (mustF (t == [6]) f0) ∧ u0.grownBy wx (some q))
  case first =>
    rcases t with _ | ⟨b, _ | ⟨b', t'⟩⟩
    · have h0 : tl = 0 := htl
      clear htl
      subst h0
      go_wp2_with fail
      refine (want_x false _ hrs).mono ?_
      rintro e v0 ⟨rfl, hrs, hg⟩
      go_wp2_with fail
      go_meet
      exact ⟨hrs, hg⟩
    · have h0 : tl = 1 := htl
      clear htl
      subst h0
      obtain ⟨g, o', rfl, hc⟩ := hrd (by simp)
      have hc0 := hc 0 (by simp)
      simp only [List.getElem_cons_zero, Nat.add_zero] at hc0
      go_wp2_with fail
      rw [one8]
      refine (want_x ([b] == [6]) _ hrs).mono ?_
      rintro e v0 ⟨rfl, hrs, hg⟩
      go_wp2_with fail
      go_meet
      exact ⟨hrs, hg⟩
    · exact absurd ht1 (by simp)
  obtain ⟨hrs, hg⟩ := hcut
  have hgw := grown_add hgw hg (.inl rfl)
  have hQ := gr_box hg (by omega) hQ
  clear hg hrd htl ht1
  obtain ⟨fl, yfl, ffl, efl⟩ : ∃ fl yfl ffl, nmS 281474976710655 (y0, mustF (t == [6]) f0) = (fl, yfl, ffl) := ⟨_, _, _, rfl⟩
  go_wp2_with fail
  refine (number_x _ hrs efl).mono ?_
  rintro e ufl ⟨rfl, hrs, hg⟩
  have HEfl : Hid (nmS 281474976710655 (y0, mustF (t == [6]) f0) = (fl, yfl, ffl)) := efl
  have hgw := grown_add hgw hg (.inl rfl)
  have hQ := gr_box hg (by omega) hQ
  obtain ⟨W1, hW1⟩ : ∃ W1 : World, W1 = ufl.alloc (.cells #[.int .u64 (fl : Nat), .int .u64 0, .int .u64 0, .int .u64 0, .int .u64 0, .int .u64 0, .int .u64 0, .int .u64 0, .int .u64 0, .int .u64 0, .slice none 0 0, .slice none 0 0] 29) := ⟨_, rfl⟩
  have hR : W1.heap[ufl.heap.size]? = some (.cells #[.int .u64 (fl : Nat), .int .u64 0, .int .u64 0, .int .u64 0, .int .u64 0, .int .u64 0, .int .u64 0, .int .u64 0, .int .u64 0, .int .u64 0, .slice none 0 0, .slice none 0 0] 29 (0, 0)) := by rw [hW1]; exact heap_alloc_new ufl _
  have hbX : Below ufl.heap.size ufl W1 := by rw [hW1]; exact al (Below.refl _ _) _
  have hX0 := hgw.size
  have hgw := gr_below hgw hbX
  have hrs := hrs.below hbX
  have hQ := box_on hQ hbX
  obtain ⟨X, hXe⟩ : ∃ X, X = ufl.heap.size := ⟨_, rfl⟩
  rw [← hXe] at hR hX0
  have hXw : w.heap.size < X := by omega
  clear efl hg
  obtain ⟨bfl, hbfl⟩ : ∃ bfl, bfl = decide ((fl : Int) ≤ 7) := ⟨_, rfl⟩
  have HBfl : Hid (bfl = decide (fl < 8)) := by unfold Hid; rw [hbfl]; exact decide_eq_decide.2 (by omega)
  go_wp2_with fail
  rw [← hW1, ← hXe, ← hbfl]
  clear hW1 hXe hbX hbfl
  refine (want_x bfl _ hrs).mono ?_
  rintro e wfl ⟨rfl, hrs, hg⟩
  have hgw := grown_add hgw hg (.inl rfl)
  have hR := gr_box hg (by omega) hR
  have hQ := gr_box hg (by omega) hQ
  clear hg
  go_wp2_with fail
  refine wp_loop_rounds 7 ?_
  obtain ⟨a0, ya0, fa0, ea0⟩ : ∃ a0 ya0 fa0, nmS 281474976710655 (yfl, mustF bfl ffl) = (a0, ya0, fa0) := ⟨_, _, _, rfl⟩
  rw [rounds_succ]
  go_wp2_with fail
  refine (number_x _ hrs ea0).mono ?_
  rintro e ua0 ⟨rfl, hrs, hg⟩
  have HEa0 : Hid (nmS 281474976710655 (yfl, mustF bfl ffl) = (a0, ya0, fa0)) := ea0
  have hgw := grown_add hgw hg (.inl rfl)
  have hQ := gr_box hg (by omega) hQ
  have hR := gr_box hg (by omega) hR
  clear ea0 hg
  obtain ⟨c0, c1, c2, c3, c4, c5, c6, c7, c8, c9, c10, c11, z0, z1, z2, z3, z4, z5, z6, z7, z8, z9, z10, z11⟩ := cells12 hR
  have gs : ua0.grownBy (ua0.setCell ⟨X, 1, none⟩ (.int .u64 (a0 : Nat))) (some X) := gr_set (World.grownBy.refl _ _) _ _
  have hgw : w1.grownBy (ua0.setCell ⟨X, 1, none⟩ (.int .u64 (a0 : Nat))) (some q) := grown_add hgw gs (.inr fun j hj => by cases hj; omega)
  have hrs := hrs.set X 1 (.int .u64 (a0 : Nat)) (.inr (by omega))
  have hR : (ua0.setCell ⟨X, 1, none⟩ (.int .u64 (a0 : Nat))).heap[X]? = some (.cells #[.int .u64 (fl : Nat), .int .u64 (a0 : Nat), .int .u64 0, .int .u64 0, .int .u64 0, .int .u64 0, .int .u64 0, .int .u64 0, .int .u64 0, .int .u64 0, .slice none 0 0, .slice none 0 0] 29 (0, 0)) := heap_set1 (i := 1) (v := .int .u64 (a0 : Nat)) hR
  have hQ := gr_box gs (by omega) hQ
  obtain ⟨a1, ya1, fa1, ea1⟩ : ∃ a1 ya1 fa1, nmS 281474976710655 (ya0, fa0) = (a1, ya1, fa1) := ⟨_, _, _, rfl⟩
  go_wp2_with fail
  rw [rounds_succ]
  go_wp2_with fail
  clear c0 c1 c2 c3 c4 c5 c6 c7 c8 c9 c10 c11 z0 z1 z2 z3 z4 z5 z6 z7 z8 z9 z10 z11
  refine (number_x _ hrs ea1).mono ?_
  rintro e ua1 ⟨rfl, hrs, hg⟩
  have HEa1 : Hid (nmS 281474976710655 (ya0, fa0) = (a1, ya1, fa1)) := ea1
  have hgw := grown_add hgw hg (.inl rfl)
  have hQ := gr_box hg (by omega) hQ
  have hR := gr_box hg (by omega) hR
  clear ea1 hg
  obtain ⟨c0, c1, c2, c3, c4, c5, c6, c7, c8, c9, c10, c11, z0, z1, z2, z3, z4, z5, z6, z7, z8, z9, z10, z11⟩ := cells12 hR
  have gs : ua1.grownBy (ua1.setCell ⟨X, 2, none⟩ (.int .u64 (a1 : Nat))) (some X) := gr_set (World.grownBy.refl _ _) _ _
  have hgw : w1.grownBy (ua1.setCell ⟨X, 2, none⟩ (.int .u64 (a1 : Nat))) (some q) := grown_add hgw gs (.inr fun j hj => by cases hj; omega)
  have hrs := hrs.set X 2 (.int .u64 (a1 : Nat)) (.inr (by omega))
  have hR : (ua1.setCell ⟨X, 2, none⟩ (.int .u64 (a1 : Nat))).heap[X]? = some (.cells #[.int .u64 (fl : Nat), .int .u64 (a0 : Nat), .int .u64 (a1 : Nat), .int .u64 0, .int .u64 0, .int .u64 0, .int .u64 0, .int .u64 0, .int .u64 0, .int .u64 0, .slice none 0 0, .slice none 0 0] 29 (0, 0)) := heap_set1 (i := 2) (v := .int .u64 (a1 : Nat)) hR
  have hQ := gr_box gs (by omega) hQ
  obtain ⟨a2, ya2, fa2, ea2⟩ : ∃ a2 ya2 fa2, nmS 281474976710655 (ya1, fa1) = (a2, ya2, fa2) := ⟨_, _, _, rfl⟩
  go_wp2_with fail
  rw [rounds_succ]
  go_wp2_with fail
  clear c0 c1 c2 c3 c4 c5 c6 c7 c8 c9 c10 c11 z0 z1 z2 z3 z4 z5 z6 z7 z8 z9 z10 z11
  refine (number_x _ hrs ea2).mono ?_
  rintro e ua2 ⟨rfl, hrs, hg⟩
  have HEa2 : Hid (nmS 281474976710655 (ya1, fa1) = (a2, ya2, fa2)) := ea2
  have hgw := grown_add hgw hg (.inl rfl)
  have hQ := gr_box hg (by omega) hQ
  have hR := gr_box hg (by omega) hR
  clear ea2 hg
  obtain ⟨c0, c1, c2, c3, c4, c5, c6, c7, c8, c9, c10, c11, z0, z1, z2, z3, z4, z5, z6, z7, z8, z9, z10, z11⟩ := cells12 hR
  have gs : ua2.grownBy (ua2.setCell ⟨X, 3, none⟩ (.int .u64 (a2 : Nat))) (some X) := gr_set (World.grownBy.refl _ _) _ _
  have hgw : w1.grownBy (ua2.setCell ⟨X, 3, none⟩ (.int .u64 (a2 : Nat))) (some q) := grown_add hgw gs (.inr fun j hj => by cases hj; omega)
  have hrs := hrs.set X 3 (.int .u64 (a2 : Nat)) (.inr (by omega))
  have hR : (ua2.setCell ⟨X, 3, none⟩ (.int .u64 (a2 : Nat))).heap[X]? = some (.cells #[.int .u64 (fl : Nat), .int .u64 (a0 : Nat), .int .u64 (a1 : Nat), .int .u64 (a2 : Nat), .int .u64 0, .int .u64 0, .int .u64 0, .int .u64 0, .int .u64 0, .int .u64 0, .slice none 0 0, .slice none 0 0] 29 (0, 0)) := heap_set1 (i := 3) (v := .int .u64 (a2 : Nat)) hR
  have hQ := gr_box gs (by omega) hQ
  obtain ⟨a3, ya3, fa3, ea3⟩ : ∃ a3 ya3 fa3, nmS 281474976710655 (ya2, fa2) = (a3, ya3, fa3) := ⟨_, _, _, rfl⟩
  go_wp2_with fail
  rw [rounds_succ]
  go_wp2_with fail
  clear c0 c1 c2 c3 c4 c5 c6 c7 c8 c9 c10 c11 z0 z1 z2 z3 z4 z5 z6 z7 z8 z9 z10 z11
  refine (number_x _ hrs ea3).mono ?_
  rintro e ua3 ⟨rfl, hrs, hg⟩
  have HEa3 : Hid (nmS 281474976710655 (ya2, fa2) = (a3, ya3, fa3)) := ea3
  have hgw := grown_add hgw hg (.inl rfl)
  have hQ := gr_box hg (by omega) hQ
  have hR := gr_box hg (by omega) hR
  clear ea3 hg
  obtain ⟨c0, c1, c2, c3, c4, c5, c6, c7, c8, c9, c10, c11, z0, z1, z2, z3, z4, z5, z6, z7, z8, z9, z10, z11⟩ := cells12 hR
  have gs : ua3.grownBy (ua3.setCell ⟨X, 4, none⟩ (.int .u64 (a3 : Nat))) (some X) := gr_set (World.grownBy.refl _ _) _ _
  have hgw : w1.grownBy (ua3.setCell ⟨X, 4, none⟩ (.int .u64 (a3 : Nat))) (some q) := grown_add hgw gs (.inr fun j hj => by cases hj; omega)
  have hrs := hrs.set X 4 (.int .u64 (a3 : Nat)) (.inr (by omega))
  have hR : (ua3.setCell ⟨X, 4, none⟩ (.int .u64 (a3 : Nat))).heap[X]? = some (.cells #[.int .u64 (fl : Nat), .int .u64 (a0 : Nat), .int .u64 (a1 : Nat), .int .u64 (a2 : Nat), .int .u64 (a3 : Nat), .int .u64 0, .int .u64 0, .int .u64 0, .int .u64 0, .int .u64 0, .slice none 0 0, .slice none 0 0] 29 (0, 0)) := heap_set1 (i := 4) (v := .int .u64 (a3 : Nat)) hR
  have hQ := gr_box gs (by omega) hQ
  obtain ⟨a4, ya4, fa4, ea4⟩ : ∃ a4 ya4 fa4, nmS 281474976710655 (ya3, fa3) = (a4, ya4, fa4) := ⟨_, _, _, rfl⟩
  go_wp2_with fail
  rw [rounds_succ]
  go_wp2_with fail
  clear c0 c1 c2 c3 c4 c5 c6 c7 c8 c9 c10 c11 z0 z1 z2 z3 z4 z5 z6 z7 z8 z9 z10 z11
  refine (number_x _ hrs ea4).mono ?_
  rintro e ua4 ⟨rfl, hrs, hg⟩
  have HEa4 : Hid (nmS 281474976710655 (ya3, fa3) = (a4, ya4, fa4)) := ea4
  have hgw := grown_add hgw hg (.inl rfl)
  have hQ := gr_box hg (by omega) hQ
  have hR := gr_box hg (by omega) hR
  clear ea4 hg
  obtain ⟨c0, c1, c2, c3, c4, c5, c6, c7, c8, c9, c10, c11, z0, z1, z2, z3, z4, z5, z6, z7, z8, z9, z10, z11⟩ := cells12 hR
  have gs : ua4.grownBy (ua4.setCell ⟨X, 5, none⟩ (.int .u64 (a4 : Nat))) (some X) := gr_set (World.grownBy.refl _ _) _ _
  have hgw : w1.grownBy (ua4.setCell ⟨X, 5, none⟩ (.int .u64 (a4 : Nat))) (some q) := grown_add hgw gs (.inr fun j hj => by cases hj; omega)
  have hrs := hrs.set X 5 (.int .u64 (a4 : Nat)) (.inr (by omega))
  have hR : (ua4.setCell ⟨X, 5, none⟩ (.int .u64 (a4 : Nat))).heap[X]? = some (.cells #[.int .u64 (fl : Nat), .int .u64 (a0 : Nat), .int .u64 (a1 : Nat), .int .u64 (a2 : Nat), .int .u64 (a3 : Nat), .int .u64 (a4 : Nat), .int .u64 0, .int .u64 0, .int .u64 0, .int .u64 0, .slice none 0 0, .slice none 0 0] 29 (0, 0)) := heap_set1 (i := 5) (v := .int .u64 (a4 : Nat)) hR
  have hQ := gr_box gs (by omega) hQ
  obtain ⟨a5, ya5, fa5, ea5⟩ : ∃ a5 ya5 fa5, nmS 281474976710655 (ya4, fa4) = (a5, ya5, fa5) := ⟨_, _, _, rfl⟩
  go_wp2_with fail
  rw [rounds_succ]
  go_wp2_with fail
  clear c0 c1 c2 c3 c4 c5 c6 c7 c8 c9 c10 c11 z0 z1 z2 z3 z4 z5 z6 z7 z8 z9 z10 z11
  refine (number_x _ hrs ea5).mono ?_
  rintro e ua5 ⟨rfl, hrs, hg⟩
  have HEa5 : Hid (nmS 281474976710655 (ya4, fa4) = (a5, ya5, fa5)) := ea5
  have hgw := grown_add hgw hg (.inl rfl)
  have hQ := gr_box hg (by omega) hQ
  have hR := gr_box hg (by omega) hR
  clear ea5 hg
  obtain ⟨c0, c1, c2, c3, c4, c5, c6, c7, c8, c9, c10, c11, z0, z1, z2, z3, z4, z5, z6, z7, z8, z9, z10, z11⟩ := cells12 hR
  have gs : ua5.grownBy (ua5.setCell ⟨X, 6, none⟩ (.int .u64 (a5 : Nat))) (some X) := gr_set (World.grownBy.refl _ _) _ _
  have hgw : w1.grownBy (ua5.setCell ⟨X, 6, none⟩ (.int .u64 (a5 : Nat))) (some q) := grown_add hgw gs (.inr fun j hj => by cases hj; omega)
  have hrs := hrs.set X 6 (.int .u64 (a5 : Nat)) (.inr (by omega))
  have hR : (ua5.setCell ⟨X, 6, none⟩ (.int .u64 (a5 : Nat))).heap[X]? = some (.cells #[.int .u64 (fl : Nat), .int .u64 (a0 : Nat), .int .u64 (a1 : Nat), .int .u64 (a2 : Nat), .int .u64 (a3 : Nat), .int .u64 (a4 : Nat), .int .u64 (a5 : Nat), .int .u64 0, .int .u64 0, .int .u64 0, .slice none 0 0, .slice none 0 0] 29 (0, 0)) := heap_set1 (i := 6) (v := .int .u64 (a5 : Nat)) hR
  have hQ := gr_box gs (by omega) hQ
  obtain ⟨tm, ytm, ftm, etm⟩ : ∃ tm ytm ftm, nmS 281474976710655 (ya5, fa5) = (tm, ytm, ftm) := ⟨_, _, _, rfl⟩
  go_wp2_with fail
  rw [rounds_succ]
  go_wp2_with fail
  clear c0 c1 c2 c3 c4 c5 c6 c7 c8 c9 c10 c11 z0 z1 z2 z3 z4 z5 z6 z7 z8 z9 z10 z11
  refine (number_x _ hrs etm).mono ?_
  rintro e utm ⟨rfl, hrs, hg⟩
  have HEtm : Hid (nmS 281474976710655 (ya5, fa5) = (tm, ytm, ftm)) := etm
  have hgw := grown_add hgw hg (.inl rfl)
  have hQ := gr_box hg (by omega) hQ
  have hR := gr_box hg (by omega) hR
  clear etm hg
  obtain ⟨c0, c1, c2, c3, c4, c5, c6, c7, c8, c9, c10, c11, z0, z1, z2, z3, z4, z5, z6, z7, z8, z9, z10, z11⟩ := cells12 hR
  have gs : utm.grownBy (utm.setCell ⟨X, 7, none⟩ (.int .u64 (tm : Nat))) (some X) := gr_set (World.grownBy.refl _ _) _ _
  have hgw : w1.grownBy (utm.setCell ⟨X, 7, none⟩ (.int .u64 (tm : Nat))) (some q) := grown_add hgw gs (.inr fun j hj => by cases hj; omega)
  have hrs := hrs.set X 7 (.int .u64 (tm : Nat)) (.inr (by omega))
  have hR : (utm.setCell ⟨X, 7, none⟩ (.int .u64 (tm : Nat))).heap[X]? = some (.cells #[.int .u64 (fl : Nat), .int .u64 (a0 : Nat), .int .u64 (a1 : Nat), .int .u64 (a2 : Nat), .int .u64 (a3 : Nat), .int .u64 (a4 : Nat), .int .u64 (a5 : Nat), .int .u64 (tm : Nat), .int .u64 0, .int .u64 0, .slice none 0 0, .slice none 0 0] 29 (0, 0)) := heap_set1 (i := 7) (v := .int .u64 (tm : Nat)) hR
  have hQ := gr_box gs (by omega) hQ
  obtain ⟨sq, ysq, fsq, esq⟩ : ∃ sq ysq fsq, nmS 281474976710655 (ytm, ftm) = (sq, ysq, fsq) := ⟨_, _, _, rfl⟩
  go_wp2_with fail
  clear c0 c1 c2 c3 c4 c5 c6 c7 c8 c9 c10 c11 z0 z1 z2 z3 z4 z5 z6 z7 z8 z9 z10 z11
  refine (number_x _ hrs esq).mono ?_
  rintro e usq ⟨rfl, hrs, hg⟩
  have HEsq : Hid (nmS 281474976710655 (ytm, ftm) = (sq, ysq, fsq)) := esq
  have hgw := grown_add hgw hg (.inl rfl)
  have hQ := gr_box hg (by omega) hQ
  have hR := gr_box hg (by omega) hR
  clear esq hg
  obtain ⟨c0, c1, c2, c3, c4, c5, c6, c7, c8, c9, c10, c11, z0, z1, z2, z3, z4, z5, z6, z7, z8, z9, z10, z11⟩ := cells12 hR
  have gs : usq.grownBy (usq.setCell ⟨X, 8, none⟩ (.int .u64 (sq : Nat))) (some X) := gr_set (World.grownBy.refl _ _) _ _
  have hgw : w1.grownBy (usq.setCell ⟨X, 8, none⟩ (.int .u64 (sq : Nat))) (some q) := grown_add hgw gs (.inr fun j hj => by cases hj; omega)
  have hrs := hrs.set X 8 (.int .u64 (sq : Nat)) (.inr (by omega))
  have hR : (usq.setCell ⟨X, 8, none⟩ (.int .u64 (sq : Nat))).heap[X]? = some (.cells #[.int .u64 (fl : Nat), .int .u64 (a0 : Nat), .int .u64 (a1 : Nat), .int .u64 (a2 : Nat), .int .u64 (a3 : Nat), .int .u64 (a4 : Nat), .int .u64 (a5 : Nat), .int .u64 (tm : Nat), .int .u64 (sq : Nat), .int .u64 0, .slice none 0 0, .slice none 0 0] 29 (0, 0)) := heap_set1 (i := 8) (v := .int .u64 (sq : Nat)) hR
  have hQ := gr_box gs (by omega) hQ
  obtain ⟨lf, ylf, flf, elf⟩ : ∃ lf ylf flf, nmS 281474976710655 (ysq, fsq) = (lf, ylf, flf) := ⟨_, _, _, rfl⟩
  go_wp2_with fail
  clear c0 c1 c2 c3 c4 c5 c6 c7 c8 c9 c10 c11 z0 z1 z2 z3 z4 z5 z6 z7 z8 z9 z10 z11
  refine (number_x _ hrs elf).mono ?_
  rintro e ulf ⟨rfl, hrs, hg⟩
  have HElf : Hid (nmS 281474976710655 (ysq, fsq) = (lf, ylf, flf)) := elf
  have hgw := grown_add hgw hg (.inl rfl)
  have hQ := gr_box hg (by omega) hQ
  have hR := gr_box hg (by omega) hR
  clear elf hg
  obtain ⟨c0, c1, c2, c3, c4, c5, c6, c7, c8, c9, c10, c11, z0, z1, z2, z3, z4, z5, z6, z7, z8, z9, z10, z11⟩ := cells12 hR
  have gs : ulf.grownBy (ulf.setCell ⟨X, 9, none⟩ (.int .u64 (lf : Nat))) (some X) := gr_set (World.grownBy.refl _ _) _ _
  have hgw : w1.grownBy (ulf.setCell ⟨X, 9, none⟩ (.int .u64 (lf : Nat))) (some q) := grown_add hgw gs (.inr fun j hj => by cases hj; omega)
  have hrs := hrs.set X 9 (.int .u64 (lf : Nat)) (.inr (by omega))
  have hR : (ulf.setCell ⟨X, 9, none⟩ (.int .u64 (lf : Nat))).heap[X]? = some (.cells #[.int .u64 (fl : Nat), .int .u64 (a0 : Nat), .int .u64 (a1 : Nat), .int .u64 (a2 : Nat), .int .u64 (a3 : Nat), .int .u64 (a4 : Nat), .int .u64 (a5 : Nat), .int .u64 (tm : Nat), .int .u64 (sq : Nat), .int .u64 (lf : Nat), .slice none 0 0, .slice none 0 0] 29 (0, 0)) := heap_set1 (i := 9) (v := .int .u64 (lf : Nat)) hR
  have hQ := gr_box gs (by omega) hQ
  obtain ⟨ct, yct, fct, ect⟩ : ∃ ct yct fct, nmS 281474976710655 (ylf, flf) = (ct, yct, fct) := ⟨_, _, _, rfl⟩
  go_wp2_with fail
  clear c0 c1 c2 c3 c4 c5 c6 c7 c8 c9 c10 c11 z0 z1 z2 z3 z4 z5 z6 z7 z8 z9 z10 z11
  refine (number_x _ hrs ect).mono ?_
  rintro e uct ⟨rfl, hrs, hg⟩
  have HEct : Hid (nmS 281474976710655 (ylf, flf) = (ct, yct, fct)) := ect
  have hgw := grown_add hgw hg (.inl rfl)
  have hQ := gr_box hg (by omega) hQ
  have hR := gr_box hg (by omega) hR
  clear ect hg
  obtain ⟨bct, hbct⟩ : ∃ bct, bct = decide ((ct : Int) ≤ 8) := ⟨_, rfl⟩
  have HBct : Hid (bct = decide (ct ≤ 8)) := by unfold Hid; rw [hbct]; exact decide_eq_decide.2 (by omega)
  go_wp2_with fail
  rw [← hbct]
  clear hbct
  refine (want_x bct _ hrs).mono ?_
  rintro e wct ⟨rfl, hrs, hg⟩
  have hgw := grown_add hgw hg (.inl rfl)
  have hR := gr_box hg (by omega) hR
  have hQ := gr_box hg (by omega) hQ
  clear hg
  have hct := nmS_le HEct.out
  have hcl : ct < 18446744073709551616 := by omega
  obtain ⟨T, yT, fT, eT⟩ : ∃ T yT fT, blocksS ct [] (yct, mustF bct fct) = (T, yT, fT) := ⟨_, _, _, rfl⟩
  have h80 : ct ≤ 8 ∨ ¬ mustF bct fct = 0 := by
    by_cases h8 : ct ≤ 8
    · exact .inl h8
    · exact .inr (mustF_bad (by rw [HBct.out]; simpa using h8))
  have hXs : X + 1 ≤ wct.heap.size := (Array.getElem?_eq_some_iff.1 hR).1
  go_wp2_with fail
  go_loopw [9] (fun i wr => ∃ (l : List Blk) (a : Option Addr) (c : Nat) (y : List UInt8) (g : Int), i = .int .u64 (l.length : Nat) ∧ wr.heap[X]? = some (.cells #[.int .u64 (fl : Nat), .int .u64 (a0 : Nat), .int .u64 (a1 : Nat), .int .u64 (a2 : Nat), .int .u64 (a3 : Nat), .int .u64 (a4 : Nat), .int .u64 (a5 : Nat), .int .u64 (tm : Nat), .int .u64 (sq : Nat), .int .u64 (lf : Nat), .slice a l.length c, .slice none 0 0] 29 (0, 0)) ∧ wr.heap[w.heap.size]? = some (.cells #[.int .u64 0, .int .u64 0, .int .u64 0, .int .u64 0, .int .u64 0, .int .u64 0, .int .u64 0, .int .u64 0, .int .u64 0, .int .u64 0, .slice none 0 0, .slice none 0 0] 29 (0, 0)) ∧ RowD wr (X + 1) (.slice a l.length c) l ∧ DX wr q W0.heap.size w1.heap.size y g ∧ w1.grownBy wr (some q) ∧ Hid (blocksS (ct - l.length) l (y, g) = (T, yT, fT)) ∧ l.length ≤ ct ∧ (ct ≤ 8 ∨ (l = [] ∧ ¬ g = 0)) ∧ (∀ x ∈ l, x.ok) ∧ X + 1 ≤ wr.heap.size) (fun i _ => ct - (intOf i).toNat)
  case atStart => exact ⟨[], none, 0, yct, mustF bct fct, rfl, hR, hQ, RowD.nil _ _, hrs, hgw, by unfold Hid; simpa using eT, Nat.zero_le _, by rcases h80 with h1 | h1 <;> simp [h1], fun x hx => (by cases hx), hXs⟩
  case round =>
    obtain ⟨l, a, c, y, g, rfl, hR, hQ, hrow, hrs, hgw, HBS, hlt, h8, hok, hsz⟩ := hrel
    obtain ⟨c0, c1, c2, c3, c4, c5, c6, c7, c8, c9, c10, c11, z0, z1, z2, z3, z4, z5, z6, z7, z8, z9, z10, z11⟩ := cells12 hR
    have hc1 := hrs.c1
    have hl8 : l.length ≤ 8 := by
      rcases h8 with h1 | ⟨rfl, -⟩
      · omega
      · simp
    have hwl : IntKind.u64.wrap ((l.length : Int) + 1) = ((l.length + 1 : Nat) : Int) := by rw [IntKind.wrap_u64]; omega
    by_cases hlc : l.length < ct
    · by_cases hg0 : g = 0
      · subst hg0
        have h8' : ct ≤ 8 := by
          rcases h8 with h1 | ⟨-, h1⟩
          · exact h1
          · exact absurd rfl h1
        obtain ⟨x, y2, g2, eB⟩ : ∃ x y2 g2, blockS l (y, 0) = (x, y2, g2) := ⟨_, _, _, rfl⟩
        have HBS2 : Hid (blocksS (ct - (l.length + 1)) (l ++ [x]) (y2, g2) = (T, yT, fT)) := by
          have h1 := HBS.out
          rw [show ct - l.length = (ct - (l.length + 1)) + 1 by omega, blocksS_step _ _ _ rfl, eB] at h1
          exact h1
        obtain ⟨n, hn⟩ : ∃ n, n = l.length := ⟨_, rfl⟩
        have HROW : Hid (RowD wr (X + 1) (.slice a n c) l) := by rw [hn]; exact hrow
        have HRS : Hid (DX wr q W0.heap.size w1.heap.size y 0) := hrs
        have HR : Hid (wr.heap[X]? = some (.cells #[.int .u64 (fl : Nat), .int .u64 (a0 : Nat), .int .u64 (a1 : Nat), .int .u64 (a2 : Nat), .int .u64 (a3 : Nat), .int .u64 (a4 : Nat), .int .u64 (a5 : Nat), .int .u64 (tm : Nat), .int .u64 (sq : Nat), .int .u64 (lf : Nat), .slice a n c, .slice none 0 0] 29 (0, 0))) := by rw [hn]; exact hR
        have HQ : Hid (wr.heap[w.heap.size]? = some (.cells #[.int .u64 0, .int .u64 0, .int .u64 0, .int .u64 0, .int .u64 0, .int .u64 0, .int .u64 0, .int .u64 0, .int .u64 0, .int .u64 0, .slice none 0 0, .slice none 0 0] 29 (0, 0))) := hQ
        have HOKL : Hid (∀ x ∈ l, x.ok) := hok
        obtain ⟨n1, hn1⟩ : ∃ n1, n1 = n + 1 := ⟨_, rfl⟩
        rw [← hn, ← hn1] at hwl
        rw [← hn] at hlc hl8 c10
        rw [← hn]
        have HN : Hid (n = l.length) := hn
        have HN1 : Hid (n1 = n + 1) := hn1
        clear hrow hrs hR hQ HBS hn hn1 hok h8 h80
        go_wp2_with fail
        have h0n : X < X + 1 := Nat.lt_succ_self _
        refine wp_region_noPanic ?_
        refine wp_region_held_drew (S := (fun _ => True)) (by kernel_rfl) (by exact trivial) (fun hHeld => ?_)
        refine take_at (i := 0) 75 (v := ?_) rfl rfl (by kernel_rfl) (by kernel_rfl) (by kernel_rfl) (fun _ _ _ h => h) (by rfl) ?_ hHeld ?_
        rotate_left
        · (intro w hSw; (try dsimp only at hSw); go_simp; try with_reducible rfl)
        simp only [Act.put, List.setIfInBounds_toArray, List.set_cons_zero, List.set_cons_succ]
        refine take_at (i := 2) 77 (v := ?_) rfl rfl (by kernel_rfl) (by kernel_rfl) (by kernel_rfl) (fun _ _ _ h => h) (by rfl) ?_ hHeld ?_
        rotate_left
        · (intro w hSw; (try dsimp only at hSw); go_simp; try with_reducible rfl)
        simp only [Act.put, List.setIfInBounds_toArray, List.set_cons_zero, List.set_cons_succ]
        refine take_at (i := 3) 78 (v := ?_) rfl rfl (by kernel_rfl) (by kernel_rfl) (by kernel_rfl) (fun _ _ _ h => h) (by rfl) ?_ hHeld ?_
        rotate_left
        · (intro w hSw; (try dsimp only at hSw); go_simp; try with_reducible rfl)
        simp only [Act.put, List.setIfInBounds_toArray, List.set_cons_zero, List.set_cons_succ]
        refine wpAnyH_ready (rs := [1, 4]) (by kernel_rfl) (by simp) ?_
        refine AllReadyH.cons (o := _) rfl (fun K hK => ?_) ?_
        focus
          rw [if_pos (by rfl)]
          refine val_wp 76 (v := ?_) rfl ?_ ?_
          rotate_left
          · (go_simp; try with_reducible rfl)
          refine hK.out _ _ (by exact trivial) ?_
          clear hK K
          intro hHeld2
          clear hHeld
          have hHeld := hHeld2
          clear hHeld2
          simp only [Act.put, List.setIfInBounds_toArray, List.set_cons_zero, List.set_cons_succ]
          refine val_at (i := 4) 79 (v := ?_) rfl rfl (by kernel_rfl) (by rfl) ?_ ?_ ?_
          rotate_left
          · (go_simp; try with_reducible rfl)
          · (exact trivial)
          intro hHeld2
          clear hHeld
          have hHeld := hHeld2
          clear hHeld2
          simp only [Act.put, List.setIfInBounds_toArray, List.set_cons_zero, List.set_cons_succ]
          refine run_at (i := 5) rfl (by kernel_rfl) (by rfl) (fun K hK => ?_)
          simp only [List.getElem_toArray, List.getElem_cons_zero, List.getElem_cons_succ]
          go_simp
          first | (go_at_call 43; refine (block_x HN.out a c _ (HRS.out.below (Below.refl _ _).drew) (by have := hgw.size; simp; omega) (fun z hz => (RowD.grown (HROW.out.below (Below.refl _ _).drew) hz (by omega)).rd.1) HROW.out.rd.2.1 (by have := HN.out; omega) eB).mono ?_; rintro e w5 ⟨⟨xa, xc, rfl, hown5, hf5⟩, hrs5, hg5, hok5⟩; unfold blkV; have HOW5 : Hid (Own w5 (wr.heap.size) (.slice xa x.d.length xc) x.d) := hown5; have HF5 : Hid (∀ q, xa = some q → wr.heap.size < q.block) := hf5; have HRS5 : Hid (DX w5 q W0.heap.size w1.heap.size y2 g2) := hrs5; have HG5 : Hid (wr.grownBy w5 (some q)) := (gr_drw (some q)).trans' hg5; have HOK5 : Hid x.ok := hok5; have hR5 := gr_box HG5.out (by omega) HR.out; have HQ5 : Hid _ := gr_box HG5.out (by omega) HQ.out; clear c0 c1 c2 c3 c4 c5 c6 c7 c8 c9 c10 c11 z0 z1 z2 z3 z4 z5 z6 z7 z8 z9 z10 z11; obtain ⟨c0, c1, c2, c3, c4, c5, c6, c7, c8, c9, c10, c11, z0, z1, z2, z3, z4, z5, z6, z7, z8, z9, z10, z11⟩ := cells12 hR5; have hA10 := fun (ob : Obj) => cell_on (al (Below.refl w5.heap.size w5) ob) c10; have HR5 : Hid _ := hR5; clear hown5 hf5 hrs5 hg5 hok5 hR5) | (refine wpo_appM HN.out _ _ rfl (X + 1) (.slice a n c) x xa xc w5.heap.size rfl ((HROW.out.grown HG5.out (by omega)).below (al (Below.refl _ _) _)) rfl (heap_alloc_new w5 _) (Own.below (Own.base HOW5.out (by omega)) (al (Below.refl _ _) _)) (RowD.far HROW.out HF5.out) (by have := HN.out; omega) (by have := HG5.out.size; simp; omega) ?_; intro g7 cap7 w7 hrow7 hg7 hwh7; obtain ⟨W6, hW6⟩ : ∃ W6 : World, W6 = w5.alloc (.cells #[.int .u64 x.t, .int .u64 x.n, .int .u64 x.f, .slice xa x.d.length xc] 40) := ⟨_, rfl⟩; rw [← hW6] at hg7; have hb56 : Below w5.heap.size w5 W6 := (by rw [hW6]; exact al (Below.refl _ _) _); have hob := HROW.out.rd.2.2.2; have HRS7 : Hid (DX w7 q W0.heap.size w1.heap.size y2 g2) := (HRS5.out.below hb56).grownO hg7 (fun r hr => .inr (by have := (own_blk hob r hr).1; omega)); have hR7 := gr_boxO hg7 (fun r hr => by have := (own_blk hob r hr).1; omega) (box_on HR5.out hb56); have HQ7 : Hid _ := gr_boxO hg7 (fun r hr => by have := (own_blk hob r hr).1; omega) (box_on HQ5.out hb56); have HGW7 : Hid (w1.grownBy w7 (some q)) := grown_add (gr_below (grown_add hgw HG5.out (.inl rfl)) hb56) hg7 (.inr fun r hr => by have := (own_blk hob r hr).1; omega); clear c0 c1 c2 c3 c4 c5 c6 c7 c8 c9 c10 c11 z0 z1 z2 z3 z4 z5 z6 z7 z8 z9 z10 z11; obtain ⟨c0, c1, c2, c3, c4, c5, c6, c7, c8, c9, c10, c11, z0, z1, z2, z3, z4, z5, z6, z7, z8, z9, z10, z11⟩ := cells12 hR7; have HR7 : Hid _ := hR7; have HROW7 : Hid (RowD w7 (X + 1) (.slice (some ⟨g7, 0, none⟩) (n + 1) cap7) (l ++ [x])) := hrow7; clear hrow7 hg7 hwh7 hW6 hb56 hob hR7)
          go_wp2_with fail
          refine hK.out _ _ (by exact trivial) ?_
          clear hK K
          intro hHeld2
          clear hHeld
          have hHeld := hHeld2
          clear hHeld2
          try simp only [Act.put, List.setIfInBounds_toArray, List.set_cons_zero, List.set_cons_succ]
          refine run_at (i := 6) rfl (by kernel_rfl) (by rfl) (fun K hK => ?_)
          simp only [List.getElem_toArray, List.getElem_cons_zero, List.getElem_cons_succ]
          go_simp
          go_wp2_with fail
          refine hK.out _ _ (by exact trivial) ?_
          clear hK K
          intro hHeld2
          clear hHeld
          have hHeld := hHeld2
          clear hHeld2
          try simp only [Act.put, List.setIfInBounds_toArray, List.set_cons_zero, List.set_cons_succ]
          refine run_at (i := 7) rfl (by kernel_rfl) (by rfl) (fun K hK => ?_)
          simp only [List.getElem_toArray, List.getElem_cons_zero, List.getElem_cons_succ]
          first | (go_at_call 43; refine (block_x HN.out a c _ (HRS.out.below (Below.refl _ _).drew) (by have := hgw.size; simp; omega) (fun z hz => (RowD.grown (HROW.out.below (Below.refl _ _).drew) hz (by omega)).rd.1) HROW.out.rd.2.1 (by have := HN.out; omega) eB).mono ?_; rintro e w5 ⟨⟨xa, xc, rfl, hown5, hf5⟩, hrs5, hg5, hok5⟩; unfold blkV; have HOW5 : Hid (Own w5 (wr.heap.size) (.slice xa x.d.length xc) x.d) := hown5; have HF5 : Hid (∀ q, xa = some q → wr.heap.size < q.block) := hf5; have HRS5 : Hid (DX w5 q W0.heap.size w1.heap.size y2 g2) := hrs5; have HG5 : Hid (wr.grownBy w5 (some q)) := (gr_drw (some q)).trans' hg5; have HOK5 : Hid x.ok := hok5; have hR5 := gr_box HG5.out (by omega) HR.out; have HQ5 : Hid _ := gr_box HG5.out (by omega) HQ.out; clear c0 c1 c2 c3 c4 c5 c6 c7 c8 c9 c10 c11 z0 z1 z2 z3 z4 z5 z6 z7 z8 z9 z10 z11; obtain ⟨c0, c1, c2, c3, c4, c5, c6, c7, c8, c9, c10, c11, z0, z1, z2, z3, z4, z5, z6, z7, z8, z9, z10, z11⟩ := cells12 hR5; have hA10 := fun (ob : Obj) => cell_on (al (Below.refl w5.heap.size w5) ob) c10; have HR5 : Hid _ := hR5; clear hown5 hf5 hrs5 hg5 hok5 hR5) | (refine wpo_appM HN.out _ _ rfl (X + 1) (.slice a n c) x xa xc w5.heap.size rfl ((HROW.out.grown HG5.out (by omega)).below (al (Below.refl _ _) _)) rfl (heap_alloc_new w5 _) (Own.below (Own.base HOW5.out (by omega)) (al (Below.refl _ _) _)) (RowD.far HROW.out HF5.out) (by have := HN.out; omega) (by have := HG5.out.size; simp; omega) ?_; intro g7 cap7 w7 hrow7 hg7 hwh7; obtain ⟨W6, hW6⟩ : ∃ W6 : World, W6 = w5.alloc (.cells #[.int .u64 x.t, .int .u64 x.n, .int .u64 x.f, .slice xa x.d.length xc] 40) := ⟨_, rfl⟩; rw [← hW6] at hg7; have hb56 : Below w5.heap.size w5 W6 := (by rw [hW6]; exact al (Below.refl _ _) _); have hob := HROW.out.rd.2.2.2; have HRS7 : Hid (DX w7 q W0.heap.size w1.heap.size y2 g2) := (HRS5.out.below hb56).grownO hg7 (fun r hr => .inr (by have := (own_blk hob r hr).1; omega)); have hR7 := gr_boxO hg7 (fun r hr => by have := (own_blk hob r hr).1; omega) (box_on HR5.out hb56); have HQ7 : Hid _ := gr_boxO hg7 (fun r hr => by have := (own_blk hob r hr).1; omega) (box_on HQ5.out hb56); have HGW7 : Hid (w1.grownBy w7 (some q)) := grown_add (gr_below (grown_add hgw HG5.out (.inl rfl)) hb56) hg7 (.inr fun r hr => by have := (own_blk hob r hr).1; omega); clear c0 c1 c2 c3 c4 c5 c6 c7 c8 c9 c10 c11 z0 z1 z2 z3 z4 z5 z6 z7 z8 z9 z10 z11; obtain ⟨c0, c1, c2, c3, c4, c5, c6, c7, c8, c9, c10, c11, z0, z1, z2, z3, z4, z5, z6, z7, z8, z9, z10, z11⟩ := cells12 hR7; have HR7 : Hid _ := hR7; have HROW7 : Hid (RowD w7 (X + 1) (.slice (some ⟨g7, 0, none⟩) (n + 1) cap7) (l ++ [x])) := hrow7; clear hrow7 hg7 hwh7 hW6 hb56 hob hR7)
          refine hK.out _ _ (by exact trivial) ?_
          clear hK K
          intro hHeld2
          clear hHeld
          have hHeld := hHeld2
          clear hHeld2
          try simp only [Act.put, List.setIfInBounds_toArray, List.set_cons_zero, List.set_cons_succ]
          refine take_at (i := 8) 83 (v := ?_) rfl rfl (by kernel_rfl) (by kernel_rfl) (by kernel_rfl) (fun _ _ _ h => h) (by rfl) ?_ hHeld ?_
          rotate_left
          · (intro w hSw; (try dsimp only at hSw); go_simp; try with_reducible rfl)
          simp only [Act.put, List.setIfInBounds_toArray, List.set_cons_zero, List.set_cons_succ]
          refine run_at (i := 9) rfl (by kernel_rfl) (by rfl) (fun K hK => ?_)
          simp only [List.getElem_toArray, List.getElem_cons_zero, List.getElem_cons_succ]
          go_simp
          go_wp2_with fail
          refine hK.out _ _ (by exact trivial) ?_
          clear hK K
          intro hHeld2
          clear hHeld
          have hHeld := hHeld2
          clear hHeld2
          try simp only [Act.put, List.setIfInBounds_toArray, List.set_cons_zero, List.set_cons_succ]
          refine wpAnyH_done (by kernel_rfl) ?_ _
          refine NoPanic.normal ?_
        rotate_left 1
        refine AllReadyH.cons (o := _) rfl (fun K hK => ?_) AllReadyH.nil
        focus
          rw [if_pos (by rfl)]
          refine val_wp 79 (v := ?_) rfl ?_ ?_
          rotate_left
          · (go_simp; try with_reducible rfl)
          refine hK.out _ _ (by exact trivial) ?_
          clear hK K
          intro hHeld2
          clear hHeld
          have hHeld := hHeld2
          clear hHeld2
          simp only [Act.put, List.setIfInBounds_toArray, List.set_cons_zero, List.set_cons_succ]
          refine wpAnyH_ready (rs := [1, 5]) (by kernel_rfl) (by simp) ?_
          refine AllReadyH.cons (o := _) rfl (fun K hK => ?_) ?_
          focus
            rw [if_pos (by rfl)]
            refine val_wp 76 (v := ?_) rfl ?_ ?_
            rotate_left
            · (go_simp; try with_reducible rfl)
            refine hK.out _ _ (by exact trivial) ?_
            clear hK K
            intro hHeld2
            clear hHeld
            have hHeld := hHeld2
            clear hHeld2
            simp only [Act.put, List.setIfInBounds_toArray, List.set_cons_zero, List.set_cons_succ]
            refine run_at (i := 5) rfl (by kernel_rfl) (by rfl) (fun K hK => ?_)
            simp only [List.getElem_toArray, List.getElem_cons_zero, List.getElem_cons_succ]
            go_simp
            first | (go_at_call 43; refine (block_x HN.out a c _ (HRS.out.below (Below.refl _ _).drew) (by have := hgw.size; simp; omega) (fun z hz => (RowD.grown (HROW.out.below (Below.refl _ _).drew) hz (by omega)).rd.1) HROW.out.rd.2.1 (by have := HN.out; omega) eB).mono ?_; rintro e w5 ⟨⟨xa, xc, rfl, hown5, hf5⟩, hrs5, hg5, hok5⟩; unfold blkV; have HOW5 : Hid (Own w5 (wr.heap.size) (.slice xa x.d.length xc) x.d) := hown5; have HF5 : Hid (∀ q, xa = some q → wr.heap.size < q.block) := hf5; have HRS5 : Hid (DX w5 q W0.heap.size w1.heap.size y2 g2) := hrs5; have HG5 : Hid (wr.grownBy w5 (some q)) := (gr_drw (some q)).trans' hg5; have HOK5 : Hid x.ok := hok5; have hR5 := gr_box HG5.out (by omega) HR.out; have HQ5 : Hid _ := gr_box HG5.out (by omega) HQ.out; clear c0 c1 c2 c3 c4 c5 c6 c7 c8 c9 c10 c11 z0 z1 z2 z3 z4 z5 z6 z7 z8 z9 z10 z11; obtain ⟨c0, c1, c2, c3, c4, c5, c6, c7, c8, c9, c10, c11, z0, z1, z2, z3, z4, z5, z6, z7, z8, z9, z10, z11⟩ := cells12 hR5; have hA10 := fun (ob : Obj) => cell_on (al (Below.refl w5.heap.size w5) ob) c10; have HR5 : Hid _ := hR5; clear hown5 hf5 hrs5 hg5 hok5 hR5) | (refine wpo_appM HN.out _ _ rfl (X + 1) (.slice a n c) x xa xc w5.heap.size rfl ((HROW.out.grown HG5.out (by omega)).below (al (Below.refl _ _) _)) rfl (heap_alloc_new w5 _) (Own.below (Own.base HOW5.out (by omega)) (al (Below.refl _ _) _)) (RowD.far HROW.out HF5.out) (by have := HN.out; omega) (by have := HG5.out.size; simp; omega) ?_; intro g7 cap7 w7 hrow7 hg7 hwh7; obtain ⟨W6, hW6⟩ : ∃ W6 : World, W6 = w5.alloc (.cells #[.int .u64 x.t, .int .u64 x.n, .int .u64 x.f, .slice xa x.d.length xc] 40) := ⟨_, rfl⟩; rw [← hW6] at hg7; have hb56 : Below w5.heap.size w5 W6 := (by rw [hW6]; exact al (Below.refl _ _) _); have hob := HROW.out.rd.2.2.2; have HRS7 : Hid (DX w7 q W0.heap.size w1.heap.size y2 g2) := (HRS5.out.below hb56).grownO hg7 (fun r hr => .inr (by have := (own_blk hob r hr).1; omega)); have hR7 := gr_boxO hg7 (fun r hr => by have := (own_blk hob r hr).1; omega) (box_on HR5.out hb56); have HQ7 : Hid _ := gr_boxO hg7 (fun r hr => by have := (own_blk hob r hr).1; omega) (box_on HQ5.out hb56); have HGW7 : Hid (w1.grownBy w7 (some q)) := grown_add (gr_below (grown_add hgw HG5.out (.inl rfl)) hb56) hg7 (.inr fun r hr => by have := (own_blk hob r hr).1; omega); clear c0 c1 c2 c3 c4 c5 c6 c7 c8 c9 c10 c11 z0 z1 z2 z3 z4 z5 z6 z7 z8 z9 z10 z11; obtain ⟨c0, c1, c2, c3, c4, c5, c6, c7, c8, c9, c10, c11, z0, z1, z2, z3, z4, z5, z6, z7, z8, z9, z10, z11⟩ := cells12 hR7; have HR7 : Hid _ := hR7; have HROW7 : Hid (RowD w7 (X + 1) (.slice (some ⟨g7, 0, none⟩) (n + 1) cap7) (l ++ [x])) := hrow7; clear hrow7 hg7 hwh7 hW6 hb56 hob hR7)
            go_wp2_with fail
            refine hK.out _ _ (by exact trivial) ?_
            clear hK K
            intro hHeld2
            clear hHeld
            have hHeld := hHeld2
            clear hHeld2
            try simp only [Act.put, List.setIfInBounds_toArray, List.set_cons_zero, List.set_cons_succ]
            refine run_at (i := 6) rfl (by kernel_rfl) (by rfl) (fun K hK => ?_)
            simp only [List.getElem_toArray, List.getElem_cons_zero, List.getElem_cons_succ]
            go_simp
            go_wp2_with fail
            refine hK.out _ _ (by exact trivial) ?_
            clear hK K
            intro hHeld2
            clear hHeld
            have hHeld := hHeld2
            clear hHeld2
            try simp only [Act.put, List.setIfInBounds_toArray, List.set_cons_zero, List.set_cons_succ]
            refine run_at (i := 7) rfl (by kernel_rfl) (by rfl) (fun K hK => ?_)
            simp only [List.getElem_toArray, List.getElem_cons_zero, List.getElem_cons_succ]
            first | (go_at_call 43; refine (block_x HN.out a c _ (HRS.out.below (Below.refl _ _).drew) (by have := hgw.size; simp; omega) (fun z hz => (RowD.grown (HROW.out.below (Below.refl _ _).drew) hz (by omega)).rd.1) HROW.out.rd.2.1 (by have := HN.out; omega) eB).mono ?_; rintro e w5 ⟨⟨xa, xc, rfl, hown5, hf5⟩, hrs5, hg5, hok5⟩; unfold blkV; have HOW5 : Hid (Own w5 (wr.heap.size) (.slice xa x.d.length xc) x.d) := hown5; have HF5 : Hid (∀ q, xa = some q → wr.heap.size < q.block) := hf5; have HRS5 : Hid (DX w5 q W0.heap.size w1.heap.size y2 g2) := hrs5; have HG5 : Hid (wr.grownBy w5 (some q)) := (gr_drw (some q)).trans' hg5; have HOK5 : Hid x.ok := hok5; have hR5 := gr_box HG5.out (by omega) HR.out; have HQ5 : Hid _ := gr_box HG5.out (by omega) HQ.out; clear c0 c1 c2 c3 c4 c5 c6 c7 c8 c9 c10 c11 z0 z1 z2 z3 z4 z5 z6 z7 z8 z9 z10 z11; obtain ⟨c0, c1, c2, c3, c4, c5, c6, c7, c8, c9, c10, c11, z0, z1, z2, z3, z4, z5, z6, z7, z8, z9, z10, z11⟩ := cells12 hR5; have hA10 := fun (ob : Obj) => cell_on (al (Below.refl w5.heap.size w5) ob) c10; have HR5 : Hid _ := hR5; clear hown5 hf5 hrs5 hg5 hok5 hR5) | (refine wpo_appM HN.out _ _ rfl (X + 1) (.slice a n c) x xa xc w5.heap.size rfl ((HROW.out.grown HG5.out (by omega)).below (al (Below.refl _ _) _)) rfl (heap_alloc_new w5 _) (Own.below (Own.base HOW5.out (by omega)) (al (Below.refl _ _) _)) (RowD.far HROW.out HF5.out) (by have := HN.out; omega) (by have := HG5.out.size; simp; omega) ?_; intro g7 cap7 w7 hrow7 hg7 hwh7; obtain ⟨W6, hW6⟩ : ∃ W6 : World, W6 = w5.alloc (.cells #[.int .u64 x.t, .int .u64 x.n, .int .u64 x.f, .slice xa x.d.length xc] 40) := ⟨_, rfl⟩; rw [← hW6] at hg7; have hb56 : Below w5.heap.size w5 W6 := (by rw [hW6]; exact al (Below.refl _ _) _); have hob := HROW.out.rd.2.2.2; have HRS7 : Hid (DX w7 q W0.heap.size w1.heap.size y2 g2) := (HRS5.out.below hb56).grownO hg7 (fun r hr => .inr (by have := (own_blk hob r hr).1; omega)); have hR7 := gr_boxO hg7 (fun r hr => by have := (own_blk hob r hr).1; omega) (box_on HR5.out hb56); have HQ7 : Hid _ := gr_boxO hg7 (fun r hr => by have := (own_blk hob r hr).1; omega) (box_on HQ5.out hb56); have HGW7 : Hid (w1.grownBy w7 (some q)) := grown_add (gr_below (grown_add hgw HG5.out (.inl rfl)) hb56) hg7 (.inr fun r hr => by have := (own_blk hob r hr).1; omega); clear c0 c1 c2 c3 c4 c5 c6 c7 c8 c9 c10 c11 z0 z1 z2 z3 z4 z5 z6 z7 z8 z9 z10 z11; obtain ⟨c0, c1, c2, c3, c4, c5, c6, c7, c8, c9, c10, c11, z0, z1, z2, z3, z4, z5, z6, z7, z8, z9, z10, z11⟩ := cells12 hR7; have HR7 : Hid _ := hR7; have HROW7 : Hid (RowD w7 (X + 1) (.slice (some ⟨g7, 0, none⟩) (n + 1) cap7) (l ++ [x])) := hrow7; clear hrow7 hg7 hwh7 hW6 hb56 hob hR7)
            refine hK.out _ _ (by exact trivial) ?_
            clear hK K
            intro hHeld2
            clear hHeld
            have hHeld := hHeld2
            clear hHeld2
            try simp only [Act.put, List.setIfInBounds_toArray, List.set_cons_zero, List.set_cons_succ]
            refine take_at (i := 8) 83 (v := ?_) rfl rfl (by kernel_rfl) (by kernel_rfl) (by kernel_rfl) (fun _ _ _ h => h) (by rfl) ?_ hHeld ?_
            rotate_left
            · (intro w hSw; (try dsimp only at hSw); go_simp; try with_reducible rfl)
            simp only [Act.put, List.setIfInBounds_toArray, List.set_cons_zero, List.set_cons_succ]
            refine run_at (i := 9) rfl (by kernel_rfl) (by rfl) (fun K hK => ?_)
            simp only [List.getElem_toArray, List.getElem_cons_zero, List.getElem_cons_succ]
            go_simp
            go_wp2_with fail
            refine hK.out _ _ (by exact trivial) ?_
            clear hK K
            intro hHeld2
            clear hHeld
            have hHeld := hHeld2
            clear hHeld2
            try simp only [Act.put, List.setIfInBounds_toArray, List.set_cons_zero, List.set_cons_succ]
            refine wpAnyH_done (by kernel_rfl) ?_ _
            refine NoPanic.normal ?_
          rotate_left 1
          refine AllReadyH.cons (o := _) rfl (fun K hK => ?_) AllReadyH.nil
          focus
            rw [if_pos (by rfl)]
            simp only [List.getElem_toArray, List.getElem_cons_zero, List.getElem_cons_succ]
            go_simp
            first | (go_at_call 43; refine (block_x HN.out a c _ (HRS.out.below (Below.refl _ _).drew) (by have := hgw.size; simp; omega) (fun z hz => (RowD.grown (HROW.out.below (Below.refl _ _).drew) hz (by omega)).rd.1) HROW.out.rd.2.1 (by have := HN.out; omega) eB).mono ?_; rintro e w5 ⟨⟨xa, xc, rfl, hown5, hf5⟩, hrs5, hg5, hok5⟩; unfold blkV; have HOW5 : Hid (Own w5 (wr.heap.size) (.slice xa x.d.length xc) x.d) := hown5; have HF5 : Hid (∀ q, xa = some q → wr.heap.size < q.block) := hf5; have HRS5 : Hid (DX w5 q W0.heap.size w1.heap.size y2 g2) := hrs5; have HG5 : Hid (wr.grownBy w5 (some q)) := (gr_drw (some q)).trans' hg5; have HOK5 : Hid x.ok := hok5; have hR5 := gr_box HG5.out (by omega) HR.out; have HQ5 : Hid _ := gr_box HG5.out (by omega) HQ.out; clear c0 c1 c2 c3 c4 c5 c6 c7 c8 c9 c10 c11 z0 z1 z2 z3 z4 z5 z6 z7 z8 z9 z10 z11; obtain ⟨c0, c1, c2, c3, c4, c5, c6, c7, c8, c9, c10, c11, z0, z1, z2, z3, z4, z5, z6, z7, z8, z9, z10, z11⟩ := cells12 hR5; have hA10 := fun (ob : Obj) => cell_on (al (Below.refl w5.heap.size w5) ob) c10; have HR5 : Hid _ := hR5; clear hown5 hf5 hrs5 hg5 hok5 hR5) | (refine wpo_appM HN.out _ _ rfl (X + 1) (.slice a n c) x xa xc w5.heap.size rfl ((HROW.out.grown HG5.out (by omega)).below (al (Below.refl _ _) _)) rfl (heap_alloc_new w5 _) (Own.below (Own.base HOW5.out (by omega)) (al (Below.refl _ _) _)) (RowD.far HROW.out HF5.out) (by have := HN.out; omega) (by have := HG5.out.size; simp; omega) ?_; intro g7 cap7 w7 hrow7 hg7 hwh7; obtain ⟨W6, hW6⟩ : ∃ W6 : World, W6 = w5.alloc (.cells #[.int .u64 x.t, .int .u64 x.n, .int .u64 x.f, .slice xa x.d.length xc] 40) := ⟨_, rfl⟩; rw [← hW6] at hg7; have hb56 : Below w5.heap.size w5 W6 := (by rw [hW6]; exact al (Below.refl _ _) _); have hob := HROW.out.rd.2.2.2; have HRS7 : Hid (DX w7 q W0.heap.size w1.heap.size y2 g2) := (HRS5.out.below hb56).grownO hg7 (fun r hr => .inr (by have := (own_blk hob r hr).1; omega)); have hR7 := gr_boxO hg7 (fun r hr => by have := (own_blk hob r hr).1; omega) (box_on HR5.out hb56); have HQ7 : Hid _ := gr_boxO hg7 (fun r hr => by have := (own_blk hob r hr).1; omega) (box_on HQ5.out hb56); have HGW7 : Hid (w1.grownBy w7 (some q)) := grown_add (gr_below (grown_add hgw HG5.out (.inl rfl)) hb56) hg7 (.inr fun r hr => by have := (own_blk hob r hr).1; omega); clear c0 c1 c2 c3 c4 c5 c6 c7 c8 c9 c10 c11 z0 z1 z2 z3 z4 z5 z6 z7 z8 z9 z10 z11; obtain ⟨c0, c1, c2, c3, c4, c5, c6, c7, c8, c9, c10, c11, z0, z1, z2, z3, z4, z5, z6, z7, z8, z9, z10, z11⟩ := cells12 hR7; have HR7 : Hid _ := hR7; have HROW7 : Hid (RowD w7 (X + 1) (.slice (some ⟨g7, 0, none⟩) (n + 1) cap7) (l ++ [x])) := hrow7; clear hrow7 hg7 hwh7 hW6 hb56 hob hR7)
            go_wp2_with fail
            refine hK.out _ _ (by exact trivial) ?_
            clear hK K
            intro hHeld2
            clear hHeld
            have hHeld := hHeld2
            clear hHeld2
            try simp only [Act.put, List.setIfInBounds_toArray, List.set_cons_zero, List.set_cons_succ]
            refine wpAnyH_ready (rs := [1, 6]) (by kernel_rfl) (by simp) ?_
            refine AllReadyH.cons (o := _) rfl (fun K hK => ?_) ?_
            focus
              rw [if_pos (by rfl)]
              refine val_wp 76 (v := ?_) rfl ?_ ?_
              rotate_left
              · (go_simp; try with_reducible rfl)
              refine hK.out _ _ (by exact trivial) ?_
              clear hK K
              intro hHeld2
              clear hHeld
              have hHeld := hHeld2
              clear hHeld2
              simp only [Act.put, List.setIfInBounds_toArray, List.set_cons_zero, List.set_cons_succ]
              refine run_at (i := 6) rfl (by kernel_rfl) (by rfl) (fun K hK => ?_)
              simp only [List.getElem_toArray, List.getElem_cons_zero, List.getElem_cons_succ]
              go_simp
              go_wp2_with fail
              refine hK.out _ _ (by exact trivial) ?_
              clear hK K
              intro hHeld2
              clear hHeld
              have hHeld := hHeld2
              clear hHeld2
              try simp only [Act.put, List.setIfInBounds_toArray, List.set_cons_zero, List.set_cons_succ]
              refine run_at (i := 7) rfl (by kernel_rfl) (by rfl) (fun K hK => ?_)
              simp only [List.getElem_toArray, List.getElem_cons_zero, List.getElem_cons_succ]
              first | (go_at_call 43; refine (block_x HN.out a c _ (HRS.out.below (Below.refl _ _).drew) (by have := hgw.size; simp; omega) (fun z hz => (RowD.grown (HROW.out.below (Below.refl _ _).drew) hz (by omega)).rd.1) HROW.out.rd.2.1 (by have := HN.out; omega) eB).mono ?_; rintro e w5 ⟨⟨xa, xc, rfl, hown5, hf5⟩, hrs5, hg5, hok5⟩; unfold blkV; have HOW5 : Hid (Own w5 (wr.heap.size) (.slice xa x.d.length xc) x.d) := hown5; have HF5 : Hid (∀ q, xa = some q → wr.heap.size < q.block) := hf5; have HRS5 : Hid (DX w5 q W0.heap.size w1.heap.size y2 g2) := hrs5; have HG5 : Hid (wr.grownBy w5 (some q)) := (gr_drw (some q)).trans' hg5; have HOK5 : Hid x.ok := hok5; have hR5 := gr_box HG5.out (by omega) HR.out; have HQ5 : Hid _ := gr_box HG5.out (by omega) HQ.out; clear c0 c1 c2 c3 c4 c5 c6 c7 c8 c9 c10 c11 z0 z1 z2 z3 z4 z5 z6 z7 z8 z9 z10 z11; obtain ⟨c0, c1, c2, c3, c4, c5, c6, c7, c8, c9, c10, c11, z0, z1, z2, z3, z4, z5, z6, z7, z8, z9, z10, z11⟩ := cells12 hR5; have hA10 := fun (ob : Obj) => cell_on (al (Below.refl w5.heap.size w5) ob) c10; have HR5 : Hid _ := hR5; clear hown5 hf5 hrs5 hg5 hok5 hR5) | (refine wpo_appM HN.out _ _ rfl (X + 1) (.slice a n c) x xa xc w5.heap.size rfl ((HROW.out.grown HG5.out (by omega)).below (al (Below.refl _ _) _)) rfl (heap_alloc_new w5 _) (Own.below (Own.base HOW5.out (by omega)) (al (Below.refl _ _) _)) (RowD.far HROW.out HF5.out) (by have := HN.out; omega) (by have := HG5.out.size; simp; omega) ?_; intro g7 cap7 w7 hrow7 hg7 hwh7; obtain ⟨W6, hW6⟩ : ∃ W6 : World, W6 = w5.alloc (.cells #[.int .u64 x.t, .int .u64 x.n, .int .u64 x.f, .slice xa x.d.length xc] 40) := ⟨_, rfl⟩; rw [← hW6] at hg7; have hb56 : Below w5.heap.size w5 W6 := (by rw [hW6]; exact al (Below.refl _ _) _); have hob := HROW.out.rd.2.2.2; have HRS7 : Hid (DX w7 q W0.heap.size w1.heap.size y2 g2) := (HRS5.out.below hb56).grownO hg7 (fun r hr => .inr (by have := (own_blk hob r hr).1; omega)); have hR7 := gr_boxO hg7 (fun r hr => by have := (own_blk hob r hr).1; omega) (box_on HR5.out hb56); have HQ7 : Hid _ := gr_boxO hg7 (fun r hr => by have := (own_blk hob r hr).1; omega) (box_on HQ5.out hb56); have HGW7 : Hid (w1.grownBy w7 (some q)) := grown_add (gr_below (grown_add hgw HG5.out (.inl rfl)) hb56) hg7 (.inr fun r hr => by have := (own_blk hob r hr).1; omega); clear c0 c1 c2 c3 c4 c5 c6 c7 c8 c9 c10 c11 z0 z1 z2 z3 z4 z5 z6 z7 z8 z9 z10 z11; obtain ⟨c0, c1, c2, c3, c4, c5, c6, c7, c8, c9, c10, c11, z0, z1, z2, z3, z4, z5, z6, z7, z8, z9, z10, z11⟩ := cells12 hR7; have HR7 : Hid _ := hR7; have HROW7 : Hid (RowD w7 (X + 1) (.slice (some ⟨g7, 0, none⟩) (n + 1) cap7) (l ++ [x])) := hrow7; clear hrow7 hg7 hwh7 hW6 hb56 hob hR7)
              refine hK.out _ _ (by exact trivial) ?_
              clear hK K
              intro hHeld2
              clear hHeld
              have hHeld := hHeld2
              clear hHeld2
              try simp only [Act.put, List.setIfInBounds_toArray, List.set_cons_zero, List.set_cons_succ]
              refine take_at (i := 8) 83 (v := ?_) rfl rfl (by kernel_rfl) (by kernel_rfl) (by kernel_rfl) (fun _ _ _ h => h) (by rfl) ?_ hHeld ?_
              rotate_left
              · (intro w hSw; (try dsimp only at hSw); go_simp; try with_reducible rfl)
              simp only [Act.put, List.setIfInBounds_toArray, List.set_cons_zero, List.set_cons_succ]
              refine run_at (i := 9) rfl (by kernel_rfl) (by rfl) (fun K hK => ?_)
              simp only [List.getElem_toArray, List.getElem_cons_zero, List.getElem_cons_succ]
              go_simp
              go_wp2_with fail
              refine hK.out _ _ (by exact trivial) ?_
              clear hK K
              intro hHeld2
              clear hHeld
              have hHeld := hHeld2
              clear hHeld2
              try simp only [Act.put, List.setIfInBounds_toArray, List.set_cons_zero, List.set_cons_succ]
              refine wpAnyH_done (by kernel_rfl) ?_ _
              refine NoPanic.normal ?_
            rotate_left 1
            refine AllReadyH.cons (o := _) rfl (fun K hK => ?_) AllReadyH.nil
            focus
              rw [if_pos (by rfl)]
              simp only [List.getElem_toArray, List.getElem_cons_zero, List.getElem_cons_succ]
              go_simp
              go_wp2_with fail
              refine hK.out _ _ (by exact trivial) ?_
              clear hK K
              intro hHeld2
              clear hHeld
              have hHeld := hHeld2
              clear hHeld2
              try simp only [Act.put, List.setIfInBounds_toArray, List.set_cons_zero, List.set_cons_succ]
              refine val_at (i := 1) 76 (v := ?_) rfl rfl (by kernel_rfl) (by rfl) ?_ ?_ ?_
              rotate_left
              · (go_simp; try with_reducible rfl)
              · (exact trivial)
              intro hHeld2
              clear hHeld
              have hHeld := hHeld2
              clear hHeld2
              simp only [Act.put, List.setIfInBounds_toArray, List.set_cons_zero, List.set_cons_succ]
              refine run_at (i := 7) rfl (by kernel_rfl) (by rfl) (fun K hK => ?_)
              simp only [List.getElem_toArray, List.getElem_cons_zero, List.getElem_cons_succ]
              first | (go_at_call 43; refine (block_x HN.out a c _ (HRS.out.below (Below.refl _ _).drew) (by have := hgw.size; simp; omega) (fun z hz => (RowD.grown (HROW.out.below (Below.refl _ _).drew) hz (by omega)).rd.1) HROW.out.rd.2.1 (by have := HN.out; omega) eB).mono ?_; rintro e w5 ⟨⟨xa, xc, rfl, hown5, hf5⟩, hrs5, hg5, hok5⟩; unfold blkV; have HOW5 : Hid (Own w5 (wr.heap.size) (.slice xa x.d.length xc) x.d) := hown5; have HF5 : Hid (∀ q, xa = some q → wr.heap.size < q.block) := hf5; have HRS5 : Hid (DX w5 q W0.heap.size w1.heap.size y2 g2) := hrs5; have HG5 : Hid (wr.grownBy w5 (some q)) := (gr_drw (some q)).trans' hg5; have HOK5 : Hid x.ok := hok5; have hR5 := gr_box HG5.out (by omega) HR.out; have HQ5 : Hid _ := gr_box HG5.out (by omega) HQ.out; clear c0 c1 c2 c3 c4 c5 c6 c7 c8 c9 c10 c11 z0 z1 z2 z3 z4 z5 z6 z7 z8 z9 z10 z11; obtain ⟨c0, c1, c2, c3, c4, c5, c6, c7, c8, c9, c10, c11, z0, z1, z2, z3, z4, z5, z6, z7, z8, z9, z10, z11⟩ := cells12 hR5; have hA10 := fun (ob : Obj) => cell_on (al (Below.refl w5.heap.size w5) ob) c10; have HR5 : Hid _ := hR5; clear hown5 hf5 hrs5 hg5 hok5 hR5) | (refine wpo_appM HN.out _ _ rfl (X + 1) (.slice a n c) x xa xc w5.heap.size rfl ((HROW.out.grown HG5.out (by omega)).below (al (Below.refl _ _) _)) rfl (heap_alloc_new w5 _) (Own.below (Own.base HOW5.out (by omega)) (al (Below.refl _ _) _)) (RowD.far HROW.out HF5.out) (by have := HN.out; omega) (by have := HG5.out.size; simp; omega) ?_; intro g7 cap7 w7 hrow7 hg7 hwh7; obtain ⟨W6, hW6⟩ : ∃ W6 : World, W6 = w5.alloc (.cells #[.int .u64 x.t, .int .u64 x.n, .int .u64 x.f, .slice xa x.d.length xc] 40) := ⟨_, rfl⟩; rw [← hW6] at hg7; have hb56 : Below w5.heap.size w5 W6 := (by rw [hW6]; exact al (Below.refl _ _) _); have hob := HROW.out.rd.2.2.2; have HRS7 : Hid (DX w7 q W0.heap.size w1.heap.size y2 g2) := (HRS5.out.below hb56).grownO hg7 (fun r hr => .inr (by have := (own_blk hob r hr).1; omega)); have hR7 := gr_boxO hg7 (fun r hr => by have := (own_blk hob r hr).1; omega) (box_on HR5.out hb56); have HQ7 : Hid _ := gr_boxO hg7 (fun r hr => by have := (own_blk hob r hr).1; omega) (box_on HQ5.out hb56); have HGW7 : Hid (w1.grownBy w7 (some q)) := grown_add (gr_below (grown_add hgw HG5.out (.inl rfl)) hb56) hg7 (.inr fun r hr => by have := (own_blk hob r hr).1; omega); clear c0 c1 c2 c3 c4 c5 c6 c7 c8 c9 c10 c11 z0 z1 z2 z3 z4 z5 z6 z7 z8 z9 z10 z11; obtain ⟨c0, c1, c2, c3, c4, c5, c6, c7, c8, c9, c10, c11, z0, z1, z2, z3, z4, z5, z6, z7, z8, z9, z10, z11⟩ := cells12 hR7; have HR7 : Hid _ := hR7; have HROW7 : Hid (RowD w7 (X + 1) (.slice (some ⟨g7, 0, none⟩) (n + 1) cap7) (l ++ [x])) := hrow7; clear hrow7 hg7 hwh7 hW6 hb56 hob hR7)
              refine hK.out _ _ (by exact trivial) ?_
              clear hK K
              intro hHeld2
              clear hHeld
              have hHeld := hHeld2
              clear hHeld2
              try simp only [Act.put, List.setIfInBounds_toArray, List.set_cons_zero, List.set_cons_succ]
              refine take_at (i := 8) 83 (v := ?_) rfl rfl (by kernel_rfl) (by kernel_rfl) (by kernel_rfl) (fun _ _ _ h => h) (by rfl) ?_ hHeld ?_
              rotate_left
              · (intro w hSw; (try dsimp only at hSw); go_simp; try with_reducible rfl)
              simp only [Act.put, List.setIfInBounds_toArray, List.set_cons_zero, List.set_cons_succ]
              refine run_at (i := 9) rfl (by kernel_rfl) (by rfl) (fun K hK => ?_)
              simp only [List.getElem_toArray, List.getElem_cons_zero, List.getElem_cons_succ]
              go_simp
              go_wp2_with fail
              refine hK.out _ _ (by exact trivial) ?_
              clear hK K
              intro hHeld2
              clear hHeld
              have hHeld := hHeld2
              clear hHeld2
              try simp only [Act.put, List.setIfInBounds_toArray, List.set_cons_zero, List.set_cons_succ]
              refine wpAnyH_done (by kernel_rfl) ?_ _
              refine NoPanic.normal ?_
        all_goals
          have hlen : (l ++ [x]).length = n + 1 := by rw [List.length_append, ← HN.out]; rfl
          have HR8 : Hid (_ = _) := heap_set1 (i := 10) (v := .slice (some ⟨g7, 0, none⟩) (n + 1) cap7) HR7.out
          go_wp2
          go_roundw
          case rel =>
            refine ⟨l ++ [x], some ⟨g7, 0, none⟩, cap7, y2, g2, ?_, ?_, ?_, ?_, HRS7.out.set _ _ _ (.inr (by omega)), grown_add HGW7.out (gr_set (World.grownBy.refl _ _) _ _) (.inr fun j hj => by cases hj; omega), ?_, by rw [hlen]; omega, .inl h8', ?_, ?_⟩
            · rw [hlen, ← HN1.out]
            · rw [hlen]; exact HR8.out
            · exact gr_box (gr_set (World.grownBy.refl _ _) _ _) (by omega) HQ7.out
            · rw [hlen]; exact HROW7.out.grown (gr_set (World.grownBy.refl _ _) _ _) h0n
            · rw [hlen]; rw [HN.out]; exact HBS2
            · intro z hz
              rcases List.mem_append.1 hz with hz | hz
              · exact HOKL.out z hz
              · simp at hz; subst hz; exact HOK5.out
            · exact (Array.getElem?_eq_some_iff.1 HR8.out).1
          case measure =>
            have := HN1.out
            simp [intOf]
            omega
      · have hT : T = l ∧ yT = y ∧ fT = g := by
          have h1 := HBS.out
          rw [blocksS_bad _ _ _ hg0] at h1
          simp only [Prod.mk.injEq] at h1
          exact ⟨h1.1.symm, h1.2.1.symm, h1.2.2.symm⟩
        obtain ⟨rfl, rfl, rfl⟩ := hT
        clear HBS
        obtain ⟨py, yP, fP, eP⟩ : ∃ py yP fP, byS 512 (yT, fT) = (py, yP, fP) := ⟨_, _, _, rfl⟩
        have hval : readS (xs, 0) = (⟨fl, a0, a1, a2, a3, a4, a5, tm, sq, lf, T, py⟩, yP, fP) := by
          unfold readS muS
          simp only [HE0.out, HEfl.out, ← HBfl.out, HEa0.out, HEa1.out, HEa2.out, HEa3.out, HEa4.out, HEa5.out, HEtm.out, HEsq.out, HElf.out, HEct.out, ← HBct.out, eT, eP]
        rw [HER.out] at hval
        simp only [Prod.mk.injEq] at hval
        obtain ⟨rfl, rfl, rfl⟩ := hval
        obtain ⟨n, hn⟩ : ∃ n, n = T.length := ⟨_, rfl⟩
        have HN : Hid (n = T.length) := hn
        have HR : Hid (wr.heap[X]? = some (.cells #[.int .u64 (fl : Nat), .int .u64 (a0 : Nat), .int .u64 (a1 : Nat), .int .u64 (a2 : Nat), .int .u64 (a3 : Nat), .int .u64 (a4 : Nat), .int .u64 (a5 : Nat), .int .u64 (tm : Nat), .int .u64 (sq : Nat), .int .u64 (lf : Nat), .slice a n c, .slice none 0 0] 29 (0, 0))) := by rw [hn]; exact hR
        have HROW : Hid (RowD wr (X + 1) (.slice a n c) T) := by rw [hn]; exact hrow
        have HOKL : Hid (∀ x ∈ T, x.ok) := hok
        rw [← hn] at hwl hlc hl8 c10
        rw [← hn]
        clear hn hR hrow hok h8 h80 hwl
        go_wp2_with fail
        refine (bytes_x 512 (by decide) _ hrs eP).mono ?_
        rintro e u9 ⟨pa, pc, rfl, hownP, hrs, hg9⟩
        have HP5 : Hid (py.length ≤ 512) := byS_le eP
        obtain ⟨m, hm⟩ : ∃ m, m = py.length := ⟨_, rfl⟩
        rw [← hm] at hownP
        rw [← hm]
        have HM : Hid (m = py.length) := hm
        have hgw := grown_add hgw hg9 (.inl rfl)
        have hR9 := gr_box hg9 (by omega) HR.out
        have hQ := gr_box hg9 (by omega) hQ
        have HROW9 : Hid (RowD u9 (X + 1) (.slice a n c) T) := HROW.out.grown hg9 (by omega)
        have HOWP : Hid (Own u9 (X + 1) (.slice pa m pc) py) := Own.base hownP hsz
        have HEP : Hid (byS 512 (yT, fT) = (py, yR, gR)) := eP
        clear eP hm hg9 hownP c0 c1 c2 c3 c4 c5 c6 c7 c8 c9 c10 c11 z0 z1 z2 z3 z4 z5 z6 z7 z8 z9 z10 z11 hc1
        obtain ⟨c0, c1, c2, c3, c4, c5, c6, c7, c8, c9, c10, c11, z0, z1, z2, z3, z4, z5, z6, z7, z8, z9, z10, z11⟩ := cells12 hR9
        have gs : u9.grownBy (u9.setCell ⟨X, 11, none⟩ (.slice pa m pc)) (some X) := gr_set (World.grownBy.refl _ _) _ _
        have hrs := hrs.set X 11 (.slice pa m pc) (.inr (by omega))
        have HR9 : Hid ((u9.setCell ⟨X, 11, none⟩ (.slice pa m pc)).heap[X]? = some (.cells #[.int .u64 (fl : Nat), .int .u64 (a0 : Nat), .int .u64 (a1 : Nat), .int .u64 (a2 : Nat), .int .u64 (a3 : Nat), .int .u64 (a4 : Nat), .int .u64 (a5 : Nat), .int .u64 (tm : Nat), .int .u64 (sq : Nat), .int .u64 (lf : Nat), .slice a n c, .slice pa m pc] 29 (0, 0))) := heap_set1 (i := 11) (v := .slice pa m pc) hR9
        have HROWA : Hid (RowD (u9.setCell ⟨X, 11, none⟩ (.slice pa m pc)) (X + 1) (.slice a n c) T) := HROW9.out.grown gs (Nat.lt_succ_self _)
        have HOWPA : Hid (Own (u9.setCell ⟨X, 11, none⟩ (.slice pa m pc)) (X + 1) (.slice pa m pc) py) := Own.grown HOWP.out gs (own_nb HOWP.out (Nat.lt_succ_self _))
        have hQA := gr_box gs (by omega) hQ
        have hgwA : w1.grownBy (u9.setCell ⟨X, 11, none⟩ (.slice pa m pc)) (some q) := grown_add hgw gs (.inr fun j hj => by cases hj; omega)
        have hd1 := hrs.c1
        obtain ⟨ra, rc, hd0⟩ := hrs.c0
        clear hR9 hQ HROW9 HOWP
        obtain ⟨V, hV⟩ : ∃ V : World, V = u9.setCell ⟨X, 11, none⟩ (.slice pa m pc) := ⟨_, rfl⟩
        rw [← hV] at hrs hQA hgwA HR9 HROWA HOWPA
        have hgR : ¬ gR = 0 := by
          have h2 := HEP.out
          unfold byS at h2
          simp only [Prod.mk.injEq] at h2
          rw [← h2.2.2]
          unfold rBytes
          rw [if_neg hg0]
          exact hg0
        have HDF : Hid (decS xs = (zeroB, gR)) := by
          have h2 : rEnd yR gR = gR := by unfold rEnd; rw [if_neg hgR]
          unfold Hid
          rw [HD.out, h2, if_neg hgR]
        go_wp2_with fail
        rw [← hV]
        clear hV hd1 hd0 c0 c1 c2 c3 c4 c5 c6 c7 c8 c9 c10 c11 z0 z1 z2 z3 z4 z5 z6 z7 z8 z9 z10 z11
        have hg1 := fun (z : World) (hz : V.grownBy z (some w.heap.size)) => (hrs.grown hz (.inl (by omega))).c1
        have hs1 : V.grownBy V.drew (some w.heap.size) := gr_drw _
        have hs2 : V.grownBy ((((((((((((V.setCell ⟨w.heap.size, 0, none⟩ (.int .u64 0)).setCell ⟨w.heap.size, 1, none⟩ (.int .u64 0)).setCell ⟨w.heap.size, 2, none⟩ (.int .u64 0)).setCell ⟨w.heap.size, 3, none⟩ (.int .u64 0)).setCell ⟨w.heap.size, 4, none⟩ (.int .u64 0)).setCell ⟨w.heap.size, 5, none⟩ (.int .u64 0)).setCell ⟨w.heap.size, 6, none⟩ (.int .u64 0)).setCell ⟨w.heap.size, 7, none⟩ (.int .u64 0)).setCell ⟨w.heap.size, 8, none⟩ (.int .u64 0)).setCell ⟨w.heap.size, 9, none⟩ (.int .u64 0)).setCell ⟨w.heap.size, 10, none⟩ (.slice none 0 0)).setCell ⟨w.heap.size, 11, none⟩ (.slice none 0 0)) (some w.heap.size) := gr_set12
        have hs3 : V.grownBy ((((((((((((V.setCell ⟨w.heap.size, 0, none⟩ (.int .u64 0)).setCell ⟨w.heap.size, 1, none⟩ (.int .u64 0)).setCell ⟨w.heap.size, 2, none⟩ (.int .u64 0)).setCell ⟨w.heap.size, 3, none⟩ (.int .u64 0)).setCell ⟨w.heap.size, 4, none⟩ (.int .u64 0)).setCell ⟨w.heap.size, 5, none⟩ (.int .u64 0)).setCell ⟨w.heap.size, 6, none⟩ (.int .u64 0)).setCell ⟨w.heap.size, 7, none⟩ (.int .u64 0)).setCell ⟨w.heap.size, 8, none⟩ (.int .u64 0)).setCell ⟨w.heap.size, 9, none⟩ (.int .u64 0)).setCell ⟨w.heap.size, 10, none⟩ (.slice none 0 0)).setCell ⟨w.heap.size, 11, none⟩ (.slice none 0 0)).drew (some w.heap.size) := gr_below gr_set12 (Below.refl _ _).drew
        have hself := World.grownBy.refl V (some w.heap.size)
        obtain ⟨k0, k1, k2, k3, k4, k5, k6, k7, k8, k9, k10, k11, kz0, kz1, kz2, kz3, kz4, kz5, kz6, kz7, kz8, kz9, kz10, kz11⟩ := cells12 hQA
        refine wp_region_noPanic ?_
        refine wp_region_held_drew (S := (fun u => V.grownBy u (some w.heap.size))) (by kernel_rfl) (by with_reducible assumption) (fun hHeld => ?_)
        refine take_at (i := 0) 107 (v := ?_) rfl rfl (by kernel_rfl) (by kernel_rfl) (by kernel_rfl) (fun _ _ _ h => h) (by rfl) ?_ hHeld ?_
        rotate_left
        · (intro w hSw; (try dsimp only at hSw); go_simp; try with_reducible rfl)
        simp only [Act.put, List.setIfInBounds_toArray, List.set_cons_zero, List.set_cons_succ]
        refine take_at (i := 1) 108 (v := ?_) rfl rfl (by kernel_rfl) (by kernel_rfl) (by kernel_rfl) (fun _ _ _ h => h) (by rfl) ?_ hHeld ?_
        rotate_left
        · (intro w hSw; (try dsimp only at hSw); go_simp; try with_reducible rfl)
        simp only [Act.put, List.setIfInBounds_toArray, List.set_cons_zero, List.set_cons_succ]
        refine take_at (i := 2) 109 (v := ?_) rfl rfl (by kernel_rfl) (by kernel_rfl) (by kernel_rfl) (fun _ _ _ h => h) (by rfl) ?_ hHeld ?_
        rotate_left
        · (intro w hSw; (try dsimp only at hSw); go_simp; try with_reducible rfl)
        simp only [Act.put, List.setIfInBounds_toArray, List.set_cons_zero, List.set_cons_succ]
        refine take_at (i := 3) 110 (v := ?_) rfl rfl (by kernel_rfl) (by kernel_rfl) (by kernel_rfl) (fun _ _ _ h => h) (by rfl) ?_ hHeld ?_
        rotate_left
        · (intro w hSw; (try dsimp only at hSw); go_simp; try with_reducible rfl)
        simp only [Act.put, List.setIfInBounds_toArray, List.set_cons_zero, List.set_cons_succ]
        refine take_at (i := 4) 111 (v := ?_) rfl rfl (by kernel_rfl) (by kernel_rfl) (by kernel_rfl) (fun _ _ _ h => h) (by rfl) ?_ hHeld ?_
        rotate_left
        · (intro w hSw; (try dsimp only at hSw); go_simp; try with_reducible rfl)
        simp only [Act.put, List.setIfInBounds_toArray, List.set_cons_zero, List.set_cons_succ]
        refine run_at (i := 5) rfl (by kernel_rfl) (by rfl) (fun K hK => ?_)
        simp only [List.getElem_toArray, List.getElem_cons_zero, List.getElem_cons_succ]
        go_simp
        go_wp2_with fail
        refine hK.out _ _ (by with_reducible assumption) ?_
        clear hK K
        intro hHeld2
        clear hHeld
        have hHeld := hHeld2
        clear hHeld2
        try simp only [Act.put, List.setIfInBounds_toArray, List.set_cons_zero, List.set_cons_succ]
        refine take_at (i := 6) 3 (v := ?_) rfl rfl (by kernel_rfl) (by kernel_rfl) (by kernel_rfl) (fun _ _ _ h => h) (by rfl) ?_ hHeld ?_
        rotate_left
        · (intro w hSw; (try dsimp only at hSw); go_simp; try with_reducible rfl)
        simp only [Act.put, List.setIfInBounds_toArray, List.set_cons_zero, List.set_cons_succ]
        refine wpAnyH_done (by kernel_rfl) ?_ _
        refine NoPanic.normal ?_
        go_wp2
        have hf0 := heap_set12 (v0 := .int .u64 0) (v1 := .int .u64 0) (v2 := .int .u64 0) (v3 := .int .u64 0) (v4 := .int .u64 0) (v5 := .int .u64 0) (v6 := .int .u64 0) (v7 := .int .u64 0) (v8 := .int .u64 0) (v9 := .int .u64 0) (v10 := .slice none 0 0) (v11 := .slice none 0 0) hQA
        have hfin : ((((((((((((V.setCell ⟨w.heap.size, 0, none⟩ (.int .u64 0)).setCell ⟨w.heap.size, 1, none⟩ (.int .u64 0)).setCell ⟨w.heap.size, 2, none⟩ (.int .u64 0)).setCell ⟨w.heap.size, 3, none⟩ (.int .u64 0)).setCell ⟨w.heap.size, 4, none⟩ (.int .u64 0)).setCell ⟨w.heap.size, 5, none⟩ (.int .u64 0)).setCell ⟨w.heap.size, 6, none⟩ (.int .u64 0)).setCell ⟨w.heap.size, 7, none⟩ (.int .u64 0)).setCell ⟨w.heap.size, 8, none⟩ (.int .u64 0)).setCell ⟨w.heap.size, 9, none⟩ (.int .u64 0)).setCell ⟨w.heap.size, 10, none⟩ (.slice none 0 0)).setCell ⟨w.heap.size, 11, none⟩ (.slice none 0 0)).drew.heap[w.heap.size]? = some (.cells #[.int .u64 0, .int .u64 0, .int .u64 0, .int .u64 0, .int .u64 0, .int .u64 0, .int .u64 0, .int .u64 0, .int .u64 0, .int .u64 0, .slice none 0 0, .slice none 0 0] 29 (0, 0)) := (heap_drew _ _).trans hf0
        refine bodyPost_ret (results_ct rfl _ _ w.heap.size 29 _ (0, 0) _ rfl hfin Try.underlying29 rfl (by kernel_rfl)) rfl ?_
        have hbwF : Below w.heap.size w V := hbw.grown hgwA hbw.size (fun j hj => by cases hj; omega)
        exact ⟨⟨zeroB, none, 0, none, 0, gR, rfl, HDF.out, zeroB_R _, fun q hq => by cases hq⟩, hbwF.grown hs3 hbwF.size (fun j hj => by cases hj; exact Nat.le_refl _)⟩
    · have hT : T = l ∧ yT = y ∧ fT = g := by
        have h1 := HBS.out
        rw [show ct - l.length = 0 by omega] at h1
        simp only [blocksS, Prod.mk.injEq] at h1
        exact ⟨h1.1.symm, h1.2.1.symm, h1.2.2.symm⟩
      obtain ⟨rfl, rfl, rfl⟩ := hT
      clear HBS
      obtain ⟨py, yP, fP, eP⟩ : ∃ py yP fP, byS 512 (yT, fT) = (py, yP, fP) := ⟨_, _, _, rfl⟩
      have hval : readS (xs, 0) = (⟨fl, a0, a1, a2, a3, a4, a5, tm, sq, lf, T, py⟩, yP, fP) := by
        unfold readS muS
        simp only [HE0.out, HEfl.out, ← HBfl.out, HEa0.out, HEa1.out, HEa2.out, HEa3.out, HEa4.out, HEa5.out, HEtm.out, HEsq.out, HElf.out, HEct.out, ← HBct.out, eT, eP]
      rw [HER.out] at hval
      simp only [Prod.mk.injEq] at hval
      obtain ⟨rfl, rfl, rfl⟩ := hval
      obtain ⟨n, hn⟩ : ∃ n, n = T.length := ⟨_, rfl⟩
      have HN : Hid (n = T.length) := hn
      have HR : Hid (wr.heap[X]? = some (.cells #[.int .u64 (fl : Nat), .int .u64 (a0 : Nat), .int .u64 (a1 : Nat), .int .u64 (a2 : Nat), .int .u64 (a3 : Nat), .int .u64 (a4 : Nat), .int .u64 (a5 : Nat), .int .u64 (tm : Nat), .int .u64 (sq : Nat), .int .u64 (lf : Nat), .slice a n c, .slice none 0 0] 29 (0, 0))) := by rw [hn]; exact hR
      have HROW : Hid (RowD wr (X + 1) (.slice a n c) T) := by rw [hn]; exact hrow
      have HOKL : Hid (∀ x ∈ T, x.ok) := hok
      rw [← hn] at hwl hlc hl8 c10
      rw [← hn]
      clear hn hR hrow hok h8 h80 hwl
      go_wp2_with fail
      refine (bytes_x 512 (by decide) _ hrs eP).mono ?_
      rintro e u9 ⟨pa, pc, rfl, hownP, hrs, hg9⟩
      have HP5 : Hid (py.length ≤ 512) := byS_le eP
      obtain ⟨m, hm⟩ : ∃ m, m = py.length := ⟨_, rfl⟩
      rw [← hm] at hownP
      rw [← hm]
      have HM : Hid (m = py.length) := hm
      have hgw := grown_add hgw hg9 (.inl rfl)
      have hR9 := gr_box hg9 (by omega) HR.out
      have hQ := gr_box hg9 (by omega) hQ
      have HROW9 : Hid (RowD u9 (X + 1) (.slice a n c) T) := HROW.out.grown hg9 (by omega)
      have HOWP : Hid (Own u9 (X + 1) (.slice pa m pc) py) := Own.base hownP hsz
      have HEP : Hid (byS 512 (yT, fT) = (py, yR, gR)) := eP
      clear eP hm hg9 hownP c0 c1 c2 c3 c4 c5 c6 c7 c8 c9 c10 c11 z0 z1 z2 z3 z4 z5 z6 z7 z8 z9 z10 z11 hc1
      obtain ⟨c0, c1, c2, c3, c4, c5, c6, c7, c8, c9, c10, c11, z0, z1, z2, z3, z4, z5, z6, z7, z8, z9, z10, z11⟩ := cells12 hR9
      have gs : u9.grownBy (u9.setCell ⟨X, 11, none⟩ (.slice pa m pc)) (some X) := gr_set (World.grownBy.refl _ _) _ _
      have hrs := hrs.set X 11 (.slice pa m pc) (.inr (by omega))
      have HR9 : Hid ((u9.setCell ⟨X, 11, none⟩ (.slice pa m pc)).heap[X]? = some (.cells #[.int .u64 (fl : Nat), .int .u64 (a0 : Nat), .int .u64 (a1 : Nat), .int .u64 (a2 : Nat), .int .u64 (a3 : Nat), .int .u64 (a4 : Nat), .int .u64 (a5 : Nat), .int .u64 (tm : Nat), .int .u64 (sq : Nat), .int .u64 (lf : Nat), .slice a n c, .slice pa m pc] 29 (0, 0))) := heap_set1 (i := 11) (v := .slice pa m pc) hR9
      have HROWA : Hid (RowD (u9.setCell ⟨X, 11, none⟩ (.slice pa m pc)) (X + 1) (.slice a n c) T) := HROW9.out.grown gs (Nat.lt_succ_self _)
      have HOWPA : Hid (Own (u9.setCell ⟨X, 11, none⟩ (.slice pa m pc)) (X + 1) (.slice pa m pc) py) := Own.grown HOWP.out gs (own_nb HOWP.out (Nat.lt_succ_self _))
      have hQA := gr_box gs (by omega) hQ
      have hgwA : w1.grownBy (u9.setCell ⟨X, 11, none⟩ (.slice pa m pc)) (some q) := grown_add hgw gs (.inr fun j hj => by cases hj; omega)
      have hd1 := hrs.c1
      obtain ⟨ra, rc, hd0⟩ := hrs.c0
      clear hR9 hQ HROW9 HOWP
      obtain ⟨V, hV⟩ : ∃ V : World, V = u9.setCell ⟨X, 11, none⟩ (.slice pa m pc) := ⟨_, rfl⟩
      rw [← hV] at hrs hQA hgwA HR9 HROWA HOWPA
      by_cases hgR : gR = 0
      rotate_left
      · have HDF : Hid (decS xs = (zeroB, gR)) := by
          have h2 : rEnd yR gR = gR := by unfold rEnd; rw [if_neg hgR]
          unfold Hid
          rw [HD.out, h2, if_neg hgR]
        go_wp2_with fail
        rw [← hV]
        clear hV hd1 hd0 c0 c1 c2 c3 c4 c5 c6 c7 c8 c9 c10 c11 z0 z1 z2 z3 z4 z5 z6 z7 z8 z9 z10 z11
        have hg1 := fun (z : World) (hz : V.grownBy z (some w.heap.size)) => (hrs.grown hz (.inl (by omega))).c1
        have hs1 : V.grownBy V.drew (some w.heap.size) := gr_drw _
        have hs2 : V.grownBy ((((((((((((V.setCell ⟨w.heap.size, 0, none⟩ (.int .u64 0)).setCell ⟨w.heap.size, 1, none⟩ (.int .u64 0)).setCell ⟨w.heap.size, 2, none⟩ (.int .u64 0)).setCell ⟨w.heap.size, 3, none⟩ (.int .u64 0)).setCell ⟨w.heap.size, 4, none⟩ (.int .u64 0)).setCell ⟨w.heap.size, 5, none⟩ (.int .u64 0)).setCell ⟨w.heap.size, 6, none⟩ (.int .u64 0)).setCell ⟨w.heap.size, 7, none⟩ (.int .u64 0)).setCell ⟨w.heap.size, 8, none⟩ (.int .u64 0)).setCell ⟨w.heap.size, 9, none⟩ (.int .u64 0)).setCell ⟨w.heap.size, 10, none⟩ (.slice none 0 0)).setCell ⟨w.heap.size, 11, none⟩ (.slice none 0 0)) (some w.heap.size) := gr_set12
        have hs3 : V.grownBy ((((((((((((V.setCell ⟨w.heap.size, 0, none⟩ (.int .u64 0)).setCell ⟨w.heap.size, 1, none⟩ (.int .u64 0)).setCell ⟨w.heap.size, 2, none⟩ (.int .u64 0)).setCell ⟨w.heap.size, 3, none⟩ (.int .u64 0)).setCell ⟨w.heap.size, 4, none⟩ (.int .u64 0)).setCell ⟨w.heap.size, 5, none⟩ (.int .u64 0)).setCell ⟨w.heap.size, 6, none⟩ (.int .u64 0)).setCell ⟨w.heap.size, 7, none⟩ (.int .u64 0)).setCell ⟨w.heap.size, 8, none⟩ (.int .u64 0)).setCell ⟨w.heap.size, 9, none⟩ (.int .u64 0)).setCell ⟨w.heap.size, 10, none⟩ (.slice none 0 0)).setCell ⟨w.heap.size, 11, none⟩ (.slice none 0 0)).drew (some w.heap.size) := gr_below gr_set12 (Below.refl _ _).drew
        have hself := World.grownBy.refl V (some w.heap.size)
        obtain ⟨k0, k1, k2, k3, k4, k5, k6, k7, k8, k9, k10, k11, kz0, kz1, kz2, kz3, kz4, kz5, kz6, kz7, kz8, kz9, kz10, kz11⟩ := cells12 hQA
        refine wp_region_noPanic ?_
        refine wp_region_held_drew (S := (fun u => V.grownBy u (some w.heap.size))) (by kernel_rfl) (by with_reducible assumption) (fun hHeld => ?_)
        refine take_at (i := 0) 107 (v := ?_) rfl rfl (by kernel_rfl) (by kernel_rfl) (by kernel_rfl) (fun _ _ _ h => h) (by rfl) ?_ hHeld ?_
        rotate_left
        · (intro w hSw; (try dsimp only at hSw); go_simp; try with_reducible rfl)
        simp only [Act.put, List.setIfInBounds_toArray, List.set_cons_zero, List.set_cons_succ]
        refine take_at (i := 1) 108 (v := ?_) rfl rfl (by kernel_rfl) (by kernel_rfl) (by kernel_rfl) (fun _ _ _ h => h) (by rfl) ?_ hHeld ?_
        rotate_left
        · (intro w hSw; (try dsimp only at hSw); go_simp; try with_reducible rfl)
        simp only [Act.put, List.setIfInBounds_toArray, List.set_cons_zero, List.set_cons_succ]
        refine take_at (i := 2) 109 (v := ?_) rfl rfl (by kernel_rfl) (by kernel_rfl) (by kernel_rfl) (fun _ _ _ h => h) (by rfl) ?_ hHeld ?_
        rotate_left
        · (intro w hSw; (try dsimp only at hSw); go_simp; try with_reducible rfl)
        simp only [Act.put, List.setIfInBounds_toArray, List.set_cons_zero, List.set_cons_succ]
        refine take_at (i := 3) 110 (v := ?_) rfl rfl (by kernel_rfl) (by kernel_rfl) (by kernel_rfl) (fun _ _ _ h => h) (by rfl) ?_ hHeld ?_
        rotate_left
        · (intro w hSw; (try dsimp only at hSw); go_simp; try with_reducible rfl)
        simp only [Act.put, List.setIfInBounds_toArray, List.set_cons_zero, List.set_cons_succ]
        refine take_at (i := 4) 111 (v := ?_) rfl rfl (by kernel_rfl) (by kernel_rfl) (by kernel_rfl) (fun _ _ _ h => h) (by rfl) ?_ hHeld ?_
        rotate_left
        · (intro w hSw; (try dsimp only at hSw); go_simp; try with_reducible rfl)
        simp only [Act.put, List.setIfInBounds_toArray, List.set_cons_zero, List.set_cons_succ]
        refine run_at (i := 5) rfl (by kernel_rfl) (by rfl) (fun K hK => ?_)
        simp only [List.getElem_toArray, List.getElem_cons_zero, List.getElem_cons_succ]
        go_simp
        go_wp2_with fail
        refine hK.out _ _ (by with_reducible assumption) ?_
        clear hK K
        intro hHeld2
        clear hHeld
        have hHeld := hHeld2
        clear hHeld2
        try simp only [Act.put, List.setIfInBounds_toArray, List.set_cons_zero, List.set_cons_succ]
        refine take_at (i := 6) 3 (v := ?_) rfl rfl (by kernel_rfl) (by kernel_rfl) (by kernel_rfl) (fun _ _ _ h => h) (by rfl) ?_ hHeld ?_
        rotate_left
        · (intro w hSw; (try dsimp only at hSw); go_simp; try with_reducible rfl)
        simp only [Act.put, List.setIfInBounds_toArray, List.set_cons_zero, List.set_cons_succ]
        refine wpAnyH_done (by kernel_rfl) ?_ _
        refine NoPanic.normal ?_
        go_wp2
        have hf0 := heap_set12 (v0 := .int .u64 0) (v1 := .int .u64 0) (v2 := .int .u64 0) (v3 := .int .u64 0) (v4 := .int .u64 0) (v5 := .int .u64 0) (v6 := .int .u64 0) (v7 := .int .u64 0) (v8 := .int .u64 0) (v9 := .int .u64 0) (v10 := .slice none 0 0) (v11 := .slice none 0 0) hQA
        have hfin : ((((((((((((V.setCell ⟨w.heap.size, 0, none⟩ (.int .u64 0)).setCell ⟨w.heap.size, 1, none⟩ (.int .u64 0)).setCell ⟨w.heap.size, 2, none⟩ (.int .u64 0)).setCell ⟨w.heap.size, 3, none⟩ (.int .u64 0)).setCell ⟨w.heap.size, 4, none⟩ (.int .u64 0)).setCell ⟨w.heap.size, 5, none⟩ (.int .u64 0)).setCell ⟨w.heap.size, 6, none⟩ (.int .u64 0)).setCell ⟨w.heap.size, 7, none⟩ (.int .u64 0)).setCell ⟨w.heap.size, 8, none⟩ (.int .u64 0)).setCell ⟨w.heap.size, 9, none⟩ (.int .u64 0)).setCell ⟨w.heap.size, 10, none⟩ (.slice none 0 0)).setCell ⟨w.heap.size, 11, none⟩ (.slice none 0 0)).drew.heap[w.heap.size]? = some (.cells #[.int .u64 0, .int .u64 0, .int .u64 0, .int .u64 0, .int .u64 0, .int .u64 0, .int .u64 0, .int .u64 0, .int .u64 0, .int .u64 0, .slice none 0 0, .slice none 0 0] 29 (0, 0)) := (heap_drew _ _).trans hf0
        refine bodyPost_ret (results_ct rfl _ _ w.heap.size 29 _ (0, 0) _ rfl hfin Try.underlying29 rfl (by kernel_rfl)) rfl ?_
        have hbwF : Below w.heap.size w V := hbw.grown hgwA hbw.size (fun j hj => by cases hj; omega)
        exact ⟨⟨zeroB, none, 0, none, 0, gR, rfl, HDF.out, zeroB_R _, fun q hq => by cases hq⟩, hbwF.grown hs3 hbwF.size (fun j hj => by cases hj; exact Nat.le_refl _)⟩
      subst hgR
      by_cases hyR : 0 < yR.length
      · have HDF : Hid (decS xs = (zeroB, 11)) := by
          have h2 : rEnd yR 0 = 11 := by unfold rEnd; rw [if_pos rfl, if_pos hyR]
          unfold Hid
          rw [HD.out, h2, if_neg (by decide)]
        go_wp2_with fail
        rw [← hV]
        clear hV
        refine (fail_x 11 _ hrs).mono ?_
        rintro e wF ⟨rfl, hrs, hgF⟩
        have hrs : DX wF q W0.heap.size w1.heap.size yR 11 := by simpa using hrs
        have hQA := gr_box hgF (by omega) hQA
        have hgwA := grown_add hgwA hgF (.inl rfl)
        have hd1 := hrs.c1
        clear c0 c1 c2 c3 c4 c5 c6 c7 c8 c9 c10 c11 z0 z1 z2 z3 z4 z5 z6 z7 z8 z9 z10 z11 hd0
        go_wp2_with fail
        have hg1 := fun (z : World) (hz : wF.grownBy z (some w.heap.size)) => (hrs.grown hz (.inl (by omega))).c1
        have hs1 : wF.grownBy wF.drew (some w.heap.size) := gr_drw _
        have hs2 : wF.grownBy ((((((((((((wF.setCell ⟨w.heap.size, 0, none⟩ (.int .u64 0)).setCell ⟨w.heap.size, 1, none⟩ (.int .u64 0)).setCell ⟨w.heap.size, 2, none⟩ (.int .u64 0)).setCell ⟨w.heap.size, 3, none⟩ (.int .u64 0)).setCell ⟨w.heap.size, 4, none⟩ (.int .u64 0)).setCell ⟨w.heap.size, 5, none⟩ (.int .u64 0)).setCell ⟨w.heap.size, 6, none⟩ (.int .u64 0)).setCell ⟨w.heap.size, 7, none⟩ (.int .u64 0)).setCell ⟨w.heap.size, 8, none⟩ (.int .u64 0)).setCell ⟨w.heap.size, 9, none⟩ (.int .u64 0)).setCell ⟨w.heap.size, 10, none⟩ (.slice none 0 0)).setCell ⟨w.heap.size, 11, none⟩ (.slice none 0 0)) (some w.heap.size) := gr_set12
        have hs3 : wF.grownBy ((((((((((((wF.setCell ⟨w.heap.size, 0, none⟩ (.int .u64 0)).setCell ⟨w.heap.size, 1, none⟩ (.int .u64 0)).setCell ⟨w.heap.size, 2, none⟩ (.int .u64 0)).setCell ⟨w.heap.size, 3, none⟩ (.int .u64 0)).setCell ⟨w.heap.size, 4, none⟩ (.int .u64 0)).setCell ⟨w.heap.size, 5, none⟩ (.int .u64 0)).setCell ⟨w.heap.size, 6, none⟩ (.int .u64 0)).setCell ⟨w.heap.size, 7, none⟩ (.int .u64 0)).setCell ⟨w.heap.size, 8, none⟩ (.int .u64 0)).setCell ⟨w.heap.size, 9, none⟩ (.int .u64 0)).setCell ⟨w.heap.size, 10, none⟩ (.slice none 0 0)).setCell ⟨w.heap.size, 11, none⟩ (.slice none 0 0)).drew (some w.heap.size) := gr_below gr_set12 (Below.refl _ _).drew
        have hself := World.grownBy.refl wF (some w.heap.size)
        obtain ⟨k0, k1, k2, k3, k4, k5, k6, k7, k8, k9, k10, k11, kz0, kz1, kz2, kz3, kz4, kz5, kz6, kz7, kz8, kz9, kz10, kz11⟩ := cells12 hQA
        refine wp_region_noPanic ?_
        refine wp_region_held_drew (S := (fun u => wF.grownBy u (some w.heap.size))) (by kernel_rfl) (by with_reducible assumption) (fun hHeld => ?_)
        refine take_at (i := 0) 107 (v := ?_) rfl rfl (by kernel_rfl) (by kernel_rfl) (by kernel_rfl) (fun _ _ _ h => h) (by rfl) ?_ hHeld ?_
        rotate_left
        · (intro w hSw; (try dsimp only at hSw); go_simp; try with_reducible rfl)
        simp only [Act.put, List.setIfInBounds_toArray, List.set_cons_zero, List.set_cons_succ]
        refine take_at (i := 1) 108 (v := ?_) rfl rfl (by kernel_rfl) (by kernel_rfl) (by kernel_rfl) (fun _ _ _ h => h) (by rfl) ?_ hHeld ?_
        rotate_left
        · (intro w hSw; (try dsimp only at hSw); go_simp; try with_reducible rfl)
        simp only [Act.put, List.setIfInBounds_toArray, List.set_cons_zero, List.set_cons_succ]
        refine take_at (i := 2) 109 (v := ?_) rfl rfl (by kernel_rfl) (by kernel_rfl) (by kernel_rfl) (fun _ _ _ h => h) (by rfl) ?_ hHeld ?_
        rotate_left
        · (intro w hSw; (try dsimp only at hSw); go_simp; try with_reducible rfl)
        simp only [Act.put, List.setIfInBounds_toArray, List.set_cons_zero, List.set_cons_succ]
        refine take_at (i := 3) 110 (v := ?_) rfl rfl (by kernel_rfl) (by kernel_rfl) (by kernel_rfl) (fun _ _ _ h => h) (by rfl) ?_ hHeld ?_
        rotate_left
        · (intro w hSw; (try dsimp only at hSw); go_simp; try with_reducible rfl)
        simp only [Act.put, List.setIfInBounds_toArray, List.set_cons_zero, List.set_cons_succ]
        refine take_at (i := 4) 111 (v := ?_) rfl rfl (by kernel_rfl) (by kernel_rfl) (by kernel_rfl) (fun _ _ _ h => h) (by rfl) ?_ hHeld ?_
        rotate_left
        · (intro w hSw; (try dsimp only at hSw); go_simp; try with_reducible rfl)
        simp only [Act.put, List.setIfInBounds_toArray, List.set_cons_zero, List.set_cons_succ]
        refine run_at (i := 5) rfl (by kernel_rfl) (by rfl) (fun K hK => ?_)
        simp only [List.getElem_toArray, List.getElem_cons_zero, List.getElem_cons_succ]
        go_simp
        go_wp2_with fail
        refine hK.out _ _ (by with_reducible assumption) ?_
        clear hK K
        intro hHeld2
        clear hHeld
        have hHeld := hHeld2
        clear hHeld2
        try simp only [Act.put, List.setIfInBounds_toArray, List.set_cons_zero, List.set_cons_succ]
        refine take_at (i := 6) 3 (v := ?_) rfl rfl (by kernel_rfl) (by kernel_rfl) (by kernel_rfl) (fun _ _ _ h => h) (by rfl) ?_ hHeld ?_
        rotate_left
        · (intro w hSw; (try dsimp only at hSw); go_simp; try with_reducible rfl)
        simp only [Act.put, List.setIfInBounds_toArray, List.set_cons_zero, List.set_cons_succ]
        refine wpAnyH_done (by kernel_rfl) ?_ _
        refine NoPanic.normal ?_
        go_wp2
        have hf0 := heap_set12 (v0 := .int .u64 0) (v1 := .int .u64 0) (v2 := .int .u64 0) (v3 := .int .u64 0) (v4 := .int .u64 0) (v5 := .int .u64 0) (v6 := .int .u64 0) (v7 := .int .u64 0) (v8 := .int .u64 0) (v9 := .int .u64 0) (v10 := .slice none 0 0) (v11 := .slice none 0 0) hQA
        have hfin : ((((((((((((wF.setCell ⟨w.heap.size, 0, none⟩ (.int .u64 0)).setCell ⟨w.heap.size, 1, none⟩ (.int .u64 0)).setCell ⟨w.heap.size, 2, none⟩ (.int .u64 0)).setCell ⟨w.heap.size, 3, none⟩ (.int .u64 0)).setCell ⟨w.heap.size, 4, none⟩ (.int .u64 0)).setCell ⟨w.heap.size, 5, none⟩ (.int .u64 0)).setCell ⟨w.heap.size, 6, none⟩ (.int .u64 0)).setCell ⟨w.heap.size, 7, none⟩ (.int .u64 0)).setCell ⟨w.heap.size, 8, none⟩ (.int .u64 0)).setCell ⟨w.heap.size, 9, none⟩ (.int .u64 0)).setCell ⟨w.heap.size, 10, none⟩ (.slice none 0 0)).setCell ⟨w.heap.size, 11, none⟩ (.slice none 0 0)).drew.heap[w.heap.size]? = some (.cells #[.int .u64 0, .int .u64 0, .int .u64 0, .int .u64 0, .int .u64 0, .int .u64 0, .int .u64 0, .int .u64 0, .int .u64 0, .int .u64 0, .slice none 0 0, .slice none 0 0] 29 (0, 0)) := (heap_drew _ _).trans hf0
        refine bodyPost_ret (results_ct rfl _ _ w.heap.size 29 _ (0, 0) _ rfl hfin Try.underlying29 rfl (by kernel_rfl)) rfl ?_
        have hbwF : Below w.heap.size w wF := hbw.grown hgwA hbw.size (fun j hj => by cases hj; omega)
        exact ⟨⟨zeroB, none, 0, none, 0, 11, rfl, HDF.out, zeroB_R _, fun q hq => by cases hq⟩, hbwF.grown hs3 hbwF.size (fun j hj => by cases hj; exact Nat.le_refl _)⟩
      have HDF : Hid (decS xs = (⟨fl, a0, a1, a2, a3, a4, a5, tm, sq, lf, T, py⟩, 0)) := by
        have h2 : rEnd yR 0 = 0 := by unfold rEnd; rw [if_pos rfl, if_neg hyR]
        unfold Hid
        rw [HD.out, h2, if_pos rfl]
      have hyI : ¬ (0 : Int) < (yR.length : Int) := by omega
      go_upto_region 26 with fail
      rw [← hV]
      clear c0 c1 c2 c3 c4 c5 c6 c7 c8 c9 c10 c11 z0 z1 z2 z3 z4 z5 z6 z7 z8 z9 z10 z11 hV hd0 hd1
      obtain ⟨k0, k1, k2, k3, k4, k5, k6, k7, k8, k9, k10, k11, kz0, kz1, kz2, kz3, kz4, kz5, kz6, kz7, kz8, kz9, kz10, kz11⟩ := cells12 hQA
      obtain ⟨c0, c1, c2, c3, c4, c5, c6, c7, c8, c9, c10, c11, z0, z1, z2, z3, z4, z5, z6, z7, z8, z9, z10, z11⟩ := cells12 HR9.out
      go_wp2
      have hfin := heap_set12 (v0 := .int .u64 (fl : Nat)) (v1 := .int .u64 (a0 : Nat)) (v2 := .int .u64 (a1 : Nat)) (v3 := .int .u64 (a2 : Nat)) (v4 := .int .u64 (a3 : Nat)) (v5 := .int .u64 (a4 : Nat)) (v6 := .int .u64 (a5 : Nat)) (v7 := .int .u64 (tm : Nat)) (v8 := .int .u64 (sq : Nat)) (v9 := .int .u64 (lf : Nat)) (v10 := .slice a n c) (v11 := .slice pa m pc) hQA
      refine bodyPost_ret (results_ct rfl _ _ w.heap.size 29 _ (0, 0) _ rfl hfin Try.underlying29 rfl (by kernel_rfl)) rfl ?_
      have hbwF : Below w.heap.size w V := hbw.grown hgwA hbw.size (fun j hj => by cases hj; omega)
      have q0 := nmS_le HEfl.out
      have q1 := nmS_le HEa0.out
      have q2 := nmS_le HEa1.out
      have q3 := nmS_le HEa2.out
      have q4 := nmS_le HEa3.out
      have q5 := nmS_le HEa4.out
      have q6 := nmS_le HEa5.out
      have q7 := nmS_le HEtm.out
      have q8 := nmS_le HEsq.out
      have q9 := nmS_le HElf.out
      have q11 := HP5.out
      have hTl := HN.out
      have hrowF := HROWA.out.grown (gr_set12 (w := V) (g := w.heap.size) (v0 := .int .u64 (fl : Nat)) (v1 := .int .u64 (a0 : Nat)) (v2 := .int .u64 (a1 : Nat)) (v3 := .int .u64 (a2 : Nat)) (v4 := .int .u64 (a3 : Nat)) (v5 := .int .u64 (a4 : Nat)) (v6 := .int .u64 (a5 : Nat)) (v7 := .int .u64 (tm : Nat)) (v8 := .int .u64 (sq : Nat)) (v9 := .int .u64 (lf : Nat)) (v10 := .slice a n c) (v11 := .slice pa m pc)) (by omega)
      have hownF := Own.grown HOWPA.out (gr_set12 (w := V) (g := w.heap.size) (v0 := .int .u64 (fl : Nat)) (v1 := .int .u64 (a0 : Nat)) (v2 := .int .u64 (a1 : Nat)) (v3 := .int .u64 (a2 : Nat)) (v4 := .int .u64 (a3 : Nat)) (v5 := .int .u64 (a4 : Nat)) (v6 := .int .u64 (a5 : Nat)) (v7 := .int .u64 (tm : Nat)) (v8 := .int .u64 (sq : Nat)) (v9 := .int .u64 (lf : Nat)) (v10 := .slice a n c) (v11 := .slice pa m pc)) (own_nb HOWPA.out (by omega))
      have hok : Bun.ok ⟨fl, a0, a1, a2, a3, a4, a5, tm, sq, lf, T, py⟩ := ⟨by simp only; omega, by simp only; omega, by simp only; omega, by simp only; omega, by simp only; omega, by simp only; omega, by simp only; omega, by simp only; omega, by simp only; omega, by simp only; omega, HOKL.out, by simp only; omega, by simp only; omega⟩
      refine ⟨⟨⟨fl, a0, a1, a2, a3, a4, a5, tm, sq, lf, T, py⟩, a, c, pa, pc, 0, ?_, HDF.out, bunR_ofD (B := X + 1) ?_ ?_ hok, fun z hz => ?_⟩, below_set12 hbwF (Nat.le_refl _)⟩
      · unfold bunV
        simp only
        rw [← HN.out, ← HM.out]
        rfl
      · simp only
        rw [← HN.out]
        exact hrowF
      · simp only
        rw [← HM.out]
        exact hownF
      · have := (HROWA.out.rd.2.2.2 z hz).1
        omega
end Go.Proofs.Ytdpkommmkcmifaa
