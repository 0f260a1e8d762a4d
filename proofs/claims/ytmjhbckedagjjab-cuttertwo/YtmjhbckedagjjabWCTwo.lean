import Derived.Test.YtmjhbckedagjjabLCe
namespace Go.Proofs.Ytmjhbckedagjjab
set_option linter.unusedVariables false
set_option linter.unusedSimpArgs false
open Go.RowKit
theorem scells {w : World} {g : Nat} {a b : Value} {t : TypeId} {fr : Nat × Nat} (h : w.heap[g]? = some (.cells #[a, b] t fr)) : w.cell? ⟨g, 0, none⟩ = some a ∧ w.cell? ⟨g, 1, none⟩ = some b :=
  ⟨by rw [cell_of_row _ _ _ _ _ _ h]; rfl, by rw [cell_of_row _ _ _ _ _ _ h]; rfl⟩
abbrev tSc : TypeId := 24
/-- two pairs of boxes, apart -/
structure Two (w0 w : World) (pv qv cv dv : Option Addr) : Prop where
  ex : ∃ St H Su I, Pr w pv qv St H ∧ Pr w cv dv Su I ∧ (∀ b, H b → w0.heap.size ≤ b) ∧ (∀ b, I b → w0.heap.size ≤ b) ∧ ∀ b, H b → I b → False
  bel : Below w0.heap.size w0 w
theorem Two.swap {w0 w : World} {pv qv cv dv : Option Addr} (h : Two w0 w pv qv cv dv) : Two w0 w cv dv pv qv := by
  obtain ⟨St, H, Su, I, h1, h2, h3, h4, h5⟩ := h.ex
  exact ⟨⟨Su, I, St, H, h2, h1, h4, h3, fun b hi hh => h5 b hh hi⟩, h.bel⟩
theorem Two.below {w0 w w' : World} {pv qv cv dv : Option Addr} (h : Two w0 w pv qv cv dv) (hb : Below w.heap.size w w') : Two w0 w' pv qv cv dv := by
  obtain ⟨St, H, Su, I, h1, h2, h3⟩ := h.ex
  exact ⟨⟨St, H, Su, I, h1.below hb, h2.below hb, h3⟩, h.bel.trans (hb.mono h.bel.size)⟩
theorem Two.ask {w0 w : World} {pv qv cv dv : Option Addr} (h : Two w0 w pv qv cv dv) (kd i : Int) (ao : Option Addr) (n cap : Nat) (xs : Seg) (hn : n = xs.length) (hx : ∀ u, Below w0.heap.size w0 u → Rd u ao xs) (hnil : ao = none → cap = 0) (hl : n ≤ 140737488351232) :
    Calls Try.prog 8 #[.pointer pv, .pointer qv, .agg (opv kd i ao n cap)] w fun e w' => e = .returned (.bool true) ∧ Two w0 w' pv qv cv dv := by
  obtain ⟨St, H, Su, I, h1, h2, h3, h4, h5⟩ := h.ex
  refine Calls.mono (ask_t h1 w0.heap.size h3 h.bel.size kd i ao n cap xs hn (fun u hu => hx u (h.bel.trans hu)) hnil hl) ?_
  rintro e w' ⟨rfl, ⟨H', h6, h7⟩, h8⟩
  refine ⟨rfl, ⟨_, H', Su, I, h6, h2.kept h8.size (fun b hb => h8.block b (h2.lt b hb) (fun hh => h5 b hh hb)), fun b hb => ?_, h4, fun b hb hi => ?_⟩, h.bel.trans (h8.below h3 h.bel.size)⟩
  · rcases h7 b hb with h9 | h9
    · exact h3 b h9
    · exact Nat.le_trans h.bel.size h9
  · rcases h7 b hb with h9 | h9
    · exact h5 b h9 hi
    · have := h2.lt b hi
      omega
theorem Two.begin2 {w0 w : World} {pv qv : Option Addr} (h : Ply w0 w pv qv) (r : Int) : Calls Try.prog 7 #[.int .i64 r] w fun e w' => ∃ cv dv, e = .returned (.tuple #[.pointer cv, .pointer dv, .bool true]) ∧ Two w0 w' pv qv cv dv := by
  obtain ⟨St, H, h1, h2⟩ := h.ex
  refine Calls.mono (begin_t r w) ?_
  rintro e w' ⟨cv, dv, I, rfl, h3, h4, h5⟩
  refine ⟨cv, dv, rfl, ⟨St, H, _, I, h1.below h5, h3, h2, fun b hb => Nat.le_trans h.bel.size (h4 b hb), fun b hh hi => ?_⟩, h.bel.trans (h5.mono h.bel.size)⟩
  have := h1.lt b hh
  have := h4 b hi
  omega
set_option maxRecDepth 20000 in
set_option maxHeartbeats 3200000 in
theorem cutterTwo_walk (r : Int) (ao : Option Addr) (cap : Nat) (xs : List OpD) (r2 : Int) (ao2 : Option Addr) (cap2 : Nat) (ys : List OpD) (w : World) (hr : RdO w ao xs) (hle : xs.length ≤ cap) (hnil : ao = none → cap = 0) (hl : xs.length ≤ 4398046511103) (hr2 : RdO w ao2 ys) (hle2 : ys.length ≤ cap2) (hnil2 : ao2 = none → cap2 = 0) (hl2 : ys.length ≤ 4398046511103) :
    Calls Try.prog 4 #[.agg #[.int .i64 r, .slice ao xs.length cap], .agg #[.int .i64 r2, .slice ao2 ys.length cap2]] w fun e w' => e = .returned (.bool true) ∧ Below w.heap.size w w' := by
  clear hle hnil hle2 hnil2
  go_enter Try.func4, Try.ntmps4
  go_wp2_with fail
  have hb0 : Below w.heap.size w ((w.alloc (.cells #[.int .i64 r, .slice ao xs.length cap] tSc)).alloc (.cells #[.int .i64 r2, .slice ao2 ys.length cap2] tSc)) := al (al (Below.refl _ _) _) _
  have hbx0 : ((w.alloc (.cells #[.int .i64 r, .slice ao xs.length cap] tSc)).alloc (.cells #[.int .i64 r2, .slice ao2 ys.length cap2] tSc)).heap[w.heap.size]? = some (.cells #[.int .i64 r, .slice ao xs.length cap] tSc (0, 0)) := (Below.heap_alloc _ _ _ (by simp)).trans (heap_alloc_new w _)
  have hby0 : ((w.alloc (.cells #[.int .i64 r, .slice ao xs.length cap] tSc)).alloc (.cells #[.int .i64 r2, .slice ao2 ys.length cap2] tSc)).heap[w.heap.size + 1]? = some (.cells #[.int .i64 r2, .slice ao2 ys.length cap2] tSc (0, 0)) := by
    have h9 := heap_alloc_new (w.alloc (.cells #[.int .i64 r, .slice ao xs.length cap] tSc)) (.cells #[.int .i64 r2, .slice ao2 ys.length cap2] tSc)
    rw [show (w.alloc (.cells #[.int .i64 r, .slice ao xs.length cap] tSc)).heap.size = w.heap.size + 1 by simp] at h9
    exact h9
  generalize ((w.alloc (.cells #[.int .i64 r, .slice ao xs.length cap] tSc)).alloc (.cells #[.int .i64 r2, .slice ao2 ys.length cap2] tSc)) = W0 at *
  have HR : Hid (RdO W0 ao xs) := hr.below hb0
  have HR2 : Hid (RdO W0 ao2 ys) := hr2.below hb0
  have HCS : Hid (∀ u, Below W0.heap.size W0 u → (u.cell? ⟨w.heap.size, 0, none⟩ = some (.int .i64 r) ∧ u.cell? ⟨w.heap.size, 1, none⟩ = some (.slice ao xs.length cap)) ∧ (u.cell? ⟨w.heap.size + 1, 0, none⟩ = some (.int .i64 r2) ∧ u.cell? ⟨w.heap.size + 1, 1, none⟩ = some (.slice ao2 ys.length cap2))) := fun u hu => ⟨scells ((hu.block _ (Array.getElem?_eq_some_iff.1 hbx0).1).trans hbx0), scells ((hu.block _ (Array.getElem?_eq_some_iff.1 hby0).1).trans hby0)⟩
  have HB0 : Hid _ := hb0
  clear hr hr2 hbx0 hby0 hb0
  refine Calls.mono (Ply.begin_ W0 (Below.refl _ _) r) ?_
  rintro e w1 ⟨pv, qv, rfl, h1⟩
  have HP1 : Hid _ := h1
  obtain ⟨⟨x0, x1⟩, ⟨x2, x3⟩⟩ := HCS.out _ h1.bel
  clear h1
  go_wp2_with fail
  refine Calls.mono (Two.begin2 HP1.out r2) ?_
  rintro e w2 ⟨cv, dv, rfl, h2⟩
  have HT2 : Hid _ := h2
  obtain ⟨⟨z0, z1⟩, ⟨z2, z3⟩⟩ := HCS.out _ h2.bel
  clear h2 HP1 x0 x1 x2 x3
  go_wp2
  go_loopw [11] (fun j wr => ∃ k : Nat, k ≤ xs.length + ys.length ∧ j = .int .i64 (k : Int) ∧ Two W0 wr pv qv cv dv) (fun j _ => xs.length + ys.length - (intOf j).toNat)
  case atStart => exact ⟨0, Nat.zero_le _, rfl, HT2.out⟩
  case round =>
    obtain ⟨k, hk, rfl, hp⟩ := hrel
    have HP : Hid _ := hp
    obtain ⟨⟨y0, y1⟩, ⟨y2, y3⟩⟩ := HCS.out _ hp.bel
    clear hp
    have hk0 : (0 : Int) ≤ (k : Int) := by omega
    have hkw : IntKind.i64.wrap ((k : Int) + 1) = ((k + 1 : Nat) : Int) := by rw [IntKind.wrap_i64]; omega
    by_cases hlt : k < xs.length
    · obtain ⟨b, o, rfl, hok, hrg⟩ := HR.out k hlt
      obtain ⟨op, hop⟩ : ∃ op, op = xs[k] := ⟨_, rfl⟩
      rw [← hop] at hok hrg
      obtain ⟨kd, oi, oa, on, oc, oxs⟩ := op
      have HOK : Hid _ := hok
      have hkI : (k : Int) < (xs.length : Int) := by omega
      obtain ⟨l0, l1, l2⟩ := op_cells (rangeAt_below hrg HP.out.bel)
      clear hop hok hrg
      by_cases hlt2 : k < ys.length
      · obtain ⟨b2, o2, rfl, hok2, hrg2⟩ := HR2.out k hlt2
        obtain ⟨op2, hop2⟩ : ∃ op, op = ys[k] := ⟨_, rfl⟩
        rw [← hop2] at hok2 hrg2
        obtain ⟨kd2, oi2, oa2, on2, oc2, oxs2⟩ := op2
        have HOK2 : Hid _ := hok2
        have hkJ : (k : Int) < (ys.length : Int) := by omega
        have HRG2 : Hid _ := hrg2
        clear hop2 hok2 hrg2
        go_wp2_with (first | (have hh := HP3; go_at_call 8; refine Calls.mono (HP3.out.swap.ask kd2 oi2 oa2 on2 oc2 oxs2 HOK2.out.hn (fun u hu => Rd.below HOK2.out.rd hu) HOK2.out.nil HOK2.out.le) ?_; rintro e w4 ⟨rfl, h4⟩; have HP4 : Hid _ := h4.swap; clear h4) | (go_at_call 8; refine Calls.mono (HP.out.ask kd oi oa on oc oxs HOK.out.hn (fun u hu => Rd.below HOK.out.rd hu) HOK.out.nil HOK.out.le) ?_; rintro e w3 ⟨rfl, h3⟩; obtain ⟨⟨q0, q1⟩, ⟨q2, q3⟩⟩ := HCS.out _ h3.bel; obtain ⟨n0, n1, n2⟩ := op_cells (rangeAt_below HRG2.out h3.bel); have HP3 : Hid _ := h3; clear h3))
        go_roundw
        case rel => exact ⟨k + 1, by omega, by go_num, HP4.out⟩
        case measure => simp [intOf]; omega
      · have hkJ : ¬ (k : Int) < (ys.length : Int) := by omega
        go_wp2_with (go_at_call 8; refine Calls.mono (HP.out.ask kd oi oa on oc oxs HOK.out.hn (fun u hu => Rd.below HOK.out.rd hu) HOK.out.nil HOK.out.le) ?_; rintro e w3 ⟨rfl, h3⟩; obtain ⟨⟨q0, q1⟩, ⟨q2, q3⟩⟩ := HCS.out _ h3.bel; have HP3 : Hid _ := h3; clear h3)
        go_roundw
        case rel => exact ⟨k + 1, by omega, by go_num, HP3.out⟩
        case measure => simp [intOf]; omega
    · have hkI : ¬ (k : Int) < (xs.length : Int) := by omega
      by_cases hlt2 : k < ys.length
      · obtain ⟨b2, o2, rfl, hok2, hrg2⟩ := HR2.out k hlt2
        obtain ⟨op2, hop2⟩ : ∃ op, op = ys[k] := ⟨_, rfl⟩
        rw [← hop2] at hok2 hrg2
        obtain ⟨kd2, oi2, oa2, on2, oc2, oxs2⟩ := op2
        have HOK2 : Hid _ := hok2
        have hkJ : (k : Int) < (ys.length : Int) := by omega
        obtain ⟨n0, n1, n2⟩ := op_cells (rangeAt_below hrg2 HP.out.bel)
        clear hop2 hok2 hrg2
        go_wp2_with (go_at_call 8; refine Calls.mono (HP.out.swap.ask kd2 oi2 oa2 on2 oc2 oxs2 HOK2.out.hn (fun u hu => Rd.below HOK2.out.rd hu) HOK2.out.nil HOK2.out.le) ?_; rintro e w4 ⟨rfl, h4⟩; have HP4 : Hid _ := h4.swap; clear h4)
        go_roundw
        case rel => exact ⟨k + 1, by omega, by go_num, HP4.out⟩
        case measure => simp [intOf]; omega
      · have hkJ : ¬ (k : Int) < (ys.length : Int) := by omega
        go_wp2
        go_ret
        exact ⟨rfl, below_next HB0.out HP.out.bel⟩
end Go.Proofs.Ytmjhbckedagjjab
