import Derived.Test.YtkdgjfjcpgiokaaGreatCuG
import Derived.Test.YtkdgjfjcpgiokaaGreatGLeast
namespace Go.Proofs.YtkdgjfjcpgiokaaGreat
set_option linter.unusedVariables false
set_option linter.unusedSimpArgs false
open Go.RowKit
section
variable {w w' : World} {p q : Nat} {V E : List Dc} {S : List Seg} {g c : Nat}
set_option maxRecDepth 20000 in
set_option maxHeartbeats 1600000 in
theorem got_no {q : Option Addr} (h : B0 w q) : Calls Tryz.prog 56 #[.pointer q] w fun e w' => e = .returned (.slice none 0 0) ∧ w' = w := by
  have H : Hid _ := made_no h
  clear h
  go_enter Tryz.func56, Tryz.ntmps56
  go_wp2_with (go_at_call 62; refine Calls.mono H.out ?_; rintro e w' ⟨rfl, hq⟩; have hq := hq.symm; subst hq)
  go_ret
  exact ⟨rfl, rfl⟩
/-- what Got tells -/
def GotOut (St : Option (List Seg)) (w : World) (e : Ending) (w' : World) : Prop := ∃ v rs, e = .returned v ∧ OwnR w' w.heap.size v rs ∧ GotIs rs St ∧ rs.length ≤ 64 ∧ Below w.heap.size w w'
/-- what the loop of Got keeps -/
def GRel (L : Nat → List Rg) (N : Nat) (w : World) (v j : Value) (wr : World) : Prop := ∃ k : Nat, k ≤ N ∧ j = .int .i64 (k : Int) ∧ OwnR wr w.heap.size v (L k) ∧ Below w.heap.size w wr
set_option maxRecDepth 20000 in
set_option maxHeartbeats 3200000 in
theorem got_t (h : Bx w p V S) : Calls Tryz.prog 56 #[.pointer (some ⟨p, 0, none⟩)] w fun e w' => GotOut (some S) w e w' := by
  have H : Hid _ := made_t h
  have HW : Hid _ := h
  have c0 := h.c0
  have hn1 := h.n1
  have q22 : ∀ (w : World) (a : Option Addr) (n c n' c' : Nat), (binOp .neq 24 (.slice a n c) (.slice none n' c')).run Tryz.prog w = .ok (.bool (!a.isNone)) w := fun w a n c n' c' => run_neq_slice_nil_any w _ _ a n c n' c' Tryz.underlying24
  clear h
  go_enter Tryz.func56, Tryz.ntmps56
  go_wp2_with (go_at_call 62; refine Calls.mono H.out ?_; rintro e w' ⟨rfl, hq⟩; have hq := hq.symm; subst hq)
  go_loopw [3, 13] (fun v j wr => GRel (ones S) S.length w v j wr) (fun _ j _ => S.length - (intOf j).toNat)
  case atStart => exact ⟨0, Nat.zero_le _, rfl, OwnR.nil _ _, Below.refl _ _⟩
  case round =>
    obtain ⟨k, hk, rfl, hown, hbw⟩ := hrel
    have HO : Hid (OwnR wr w.heap.size u3 (ones S k)) := hown
    have HB : Hid _ := hbw
    have HSZ : Hid _ := hbw.size
    clear hown hbw
    by_cases hlt : k < S.length
    · obtain ⟨d, xs, hd, hx, hcs, hby, hz, hxl⟩ := (HW.out.below HB.out).at_ hlt
      have hk64 : k < 64 := by omega
      have hkI : (k : Int) < 64 := by omega
      have hkN : (k : Int) < (S.length : Int) := by omega
      have hk0 : (0 : Int) ≤ (k : Int) := by omega
      have hkw : IntKind.i64.wrap ((k : Int) + 1) = ((k + 1 : Nat) : Int) := by rw [IntKind.wrap_i64]; omega
      by_cases he : xs = []
      · obtain rfl := hz he
        have HON : Hid (ones S (k + 1) = ones S k) := by unfold Hid; show ones S k ++ _ = _; rw [hx, he]; simp
        clear hz hx hd hby hxl he
        go_wp2
        go_roundw
        case rel => exact ⟨k + 1, hlt, by go_num, by rw [HON.out]; exact HO.out, HB.out⟩
        case measure => simp [intOf]; omega
      · have hpos : 0 < xs.length := by rcases xs with _ | ⟨y, ys⟩; exact absurd rfl he; simp
        have hsm := hby.some_ hpos
        have HON : Hid (ones S (k + 1) = ones S k ++ [((k : Int), (k : Int) + 1)]) := by unfold Hid; show ones S k ++ _ = _; rw [hx]; simp [he]
        have HOL : Hid _ := ones_len S k
        have hol : (ones S k).length ≤ 1099511627776 := by have := HOL.out; omega
        obtain ⟨L, hL⟩ : ∃ L, L = (ones S k).length := ⟨_, rfl⟩
        rw [← hL] at hol
        have HL : Hid _ := hL
        obtain ⟨da, dn, dc⟩ := d
        simp only at hsm
        obtain ⟨q1, hq1⟩ : ∃ q1, q1 = k + 1 := ⟨_, rfl⟩
        rw [← hq1] at hkw
        have HQ1 : Hid _ := hq1
        clear hz hx hd hby he hxl hL hq1
        go_wp2_with (at_builtin; refine wp_appR1 rfl _ _ rfl w.heap.size u3 (ones S k) L HL.out ((k : Int), (q1 : Int)) wr.heap.size rfl (OwnR.below HO.out (al (Below.refl _ _) _)) rfl (heap_alloc_new wr _) hol (by have := HSZ.out; simp; omega) ?_; intro g3 c3 w3 hown3 hg3 hlies3; have HO3 : Hid _ := hown3; have HG3 : Hid _ := hg3; clear hown3 hg3 hlies3)
        go_roundw
        case rel =>
          refine ⟨k + 1, hlt, by rw [HQ1.out], ?_, (HB.out.trans ((al (Below.refl _ _) _).mono HB.out.size)).grown HG3.out (by have := HSZ.out; simp; omega) (fun j hj => (World.ownsRow.lt HO.out j hj).1)⟩
          rw [HON.out]
          have h9 := HO3.out
          have e9 : (q1 : Int) = (k : Int) + 1 := by rw [HQ1.out]; rfl
          rw [e9] at h9
          exact h9
        case measure => simp [intOf]; have := HQ1.out; omega
    · obtain rfl : k = S.length := by omega
      have hol := ones_len S S.length
      obtain ⟨a9, c9, hv9, -, -, hnil9, hrd9, -⟩ := OwnR.val HO.out
      obtain ⟨L, hL⟩ : ∃ L, L = (ones S S.length).length := ⟨_, rfl⟩
      rw [← hL] at hv9
      subst hv9
      have HLE : Hid _ := least_t a9 L c9 (ones S S.length) wr hL hrd9 hnil9 (by omega)
      have HOL : Hid _ := hol
      clear hrd9 hnil9 hL hol
      go_wp2_with (go_at_call 67; refine Calls.mono HLE.out ?_; rintro e w5 ⟨v5, out, rfl, hown5, hlst5, hhas5, hlen5, hb5⟩; have HO5 : Hid _ := hown5; have HL5 : Hid _ := hlst5; have HH5 : Hid _ := hhas5; have HN5 : Hid _ := hlen5; have HB5 : Hid _ := hb5; clear hown5 hlst5 hhas5 hlen5 hb5)
      go_ret
      exact ⟨_, out, rfl, OwnR.base HO5.out HB.out.size, ⟨HL5.out, HH5.out⟩, by have := HN5.out; have := HOL.out; omega, below_next HB.out HB5.out⟩
theorem ownR_to {w : World} {B g cap n : Nat} {o : List Rg} {y : Rg} (hn : n = o.length + 1) (h : OwnR w B (.slice (some ⟨g, 0, none⟩) n cap) (o ++ [y])) : w.cell? ⟨g, o.length * 2 + 1, none⟩ = some (.int .i64 y.2) := by
  have hl : (o ++ [y]).length = n := by rw [hn]; simp
  unfold OwnR at h
  rw [hl] at h
  rw [World.ownsRow.cellAt h _ (by omega)]
  have := (flatR_get (o ++ [y]) o.length (by simp)).2
  rw [this]
  simp
end
end Go.Proofs.YtkdgjfjcpgiokaaGreat
