import Derived.Test.YtmjhbckedagjjaaLCd
namespace Go.Proofs.Ytmjhbckedagjjaa
set_option linter.unusedVariables false
set_option linter.unusedSimpArgs false
open Go.RowKit
theorem scells {w : World} {g : Nat} {a b : Value} {t : TypeId} {fr : Nat × Nat} (h : w.heap[g]? = some (.cells #[a, b] t fr)) : w.cell? ⟨g, 0, none⟩ = some a ∧ w.cell? ⟨g, 1, none⟩ = some b :=
  ⟨by rw [cell_of_row _ _ _ _ _ _ h]; rfl, by rw [cell_of_row _ _ _ _ _ _ h]; rfl⟩
abbrev tSc : TypeId := 37
set_option maxRecDepth 20000 in
set_option maxHeartbeats 3200000 in
theorem cutterPuts_walk (r : Int) (ao : Option Addr) (cap : Nat) (xs : List OpD) (w : World) (hr : RdO w ao xs) (hle : xs.length ≤ cap) (hnil : ao = none → cap = 0) (hl : xs.length ≤ 4398046511103) :
    Calls Try.prog 8 #[.agg #[.int .i64 r, .slice ao xs.length cap]] w fun e w' => e = .returned (.bool true) ∧ Below w.heap.size w w' := by
  clear hle hnil
  go_enter Try.func8, Try.ntmps8
  go_wp2_with fail
  have hb0 : Below w.heap.size w (w.alloc (.cells #[.int .i64 r, .slice ao xs.length cap] tSc)) := al (Below.refl _ _) _
  have hbx0 : (w.alloc (.cells #[.int .i64 r, .slice ao xs.length cap] tSc)).heap[w.heap.size]? = some (.cells #[.int .i64 r, .slice ao xs.length cap] tSc (0, 0)) := heap_alloc_new w _
  generalize (w.alloc (.cells #[.int .i64 r, .slice ao xs.length cap] tSc)) = W0 at *
  have HR : Hid (RdO W0 ao xs) := hr.below hb0
  have HCS : Hid (∀ u, Below W0.heap.size W0 u → u.cell? ⟨w.heap.size, 0, none⟩ = some (.int .i64 r) ∧ u.cell? ⟨w.heap.size, 1, none⟩ = some (.slice ao xs.length cap)) := fun u hu => scells ((hu.block _ (Array.getElem?_eq_some_iff.1 hbx0).1).trans hbx0)
  have HB0 : Hid _ := hb0
  clear hr hbx0 hb0
  refine Calls.mono (Ply.begin_ W0 (Below.refl _ _) r) ?_
  rintro e w1 ⟨pv, qv, rfl, h1⟩
  have HP1 : Hid _ := h1
  obtain ⟨x0, x1⟩ := HCS.out _ h1.bel
  clear h1
  go_wp2
  go_loopw [6] (fun j wr => ∃ k : Nat, k ≤ xs.length ∧ j = .int .i64 (k : Int) ∧ Ply W0 wr pv qv) (fun j _ => xs.length - (intOf j).toNat)
  case atStart => exact ⟨0, Nat.zero_le _, rfl, HP1.out⟩
  case round =>
    obtain ⟨k, hk, rfl, hp⟩ := hrel
    have HP : Hid _ := hp
    obtain ⟨y0, y1⟩ := HCS.out _ hp.bel
    clear hp
    by_cases hlt : k < xs.length
    · obtain ⟨b, o, rfl, hok, hrg⟩ := HR.out k hlt
      obtain ⟨op, hop⟩ : ∃ op, op = xs[k] := ⟨_, rfl⟩
      rw [← hop] at hok hrg
      obtain ⟨kd, oi, oa, on, oc, oxs⟩ := op
      have HOK : Hid _ := hok
      have hk0 : (0 : Int) ≤ (k : Int) := by omega
      have hkI : (k : Int) < (xs.length : Int) := by omega
      have hkw : IntKind.i64.wrap ((k : Int) + 1) = ((k + 1 : Nat) : Int) := by rw [IntKind.wrap_i64]; omega
      obtain ⟨l0, l1, l2⟩ := op_cells (rangeAt_below hrg HP.out.bel)
      clear hop hok hrg
      go_wp2_with (go_at_call 25; refine Calls.mono ((HP.out.below (al (Below.refl _ _) _)).ask 1 oi oa on oc oxs HOK.out.hn (fun u hu => Rd.below HOK.out.rd hu) HOK.out.nil HOK.out.le) ?_; rintro e w3 ⟨rfl, h3⟩; have HP3 : Hid _ := h3; clear h3)
      go_roundw
      case rel => exact ⟨k + 1, by omega, by go_num, HP3.out⟩
      case measure => simp [intOf]; omega
    · obtain rfl : k = xs.length := by omega
      have hkI : ¬ (xs.length : Int) < (xs.length : Int) := by omega
      go_wp2_with (first | (have hh := HQ7; go_at_call 25; refine Calls.mono (HQ7.out.ask 2 0 none 0 0 [] rfl (fun u _ => Rd.nil _ _) (fun _ => rfl) (by omega)) ?_; rintro e w8 ⟨rfl, h8⟩; have HQ8 : Hid _ := h8; clear h8) | (have hh := HQ6; go_at_call 25; refine Calls.mono (HQ6.out.ask 4 0 none 0 0 [] rfl (fun u _ => Rd.nil _ _) (fun _ => rfl) (by omega)) ?_; rintro e w7 ⟨rfl, h7⟩; have HQ7 : Hid _ := h7; clear h7) | (have hh := HQ5; go_at_call 25; refine Calls.mono (HQ5.out.ask 5 0 none 0 0 [] rfl (fun u _ => Rd.nil _ _) (fun _ => rfl) (by omega)) ?_; rintro e w6 ⟨rfl, h6⟩; have HQ6 : Hid _ := h6; clear h6) | (have hh := HP; go_at_call 25; refine Calls.mono (HP.out.ask 3 0 none 0 0 [] rfl (fun u _ => Rd.nil _ _) (fun _ => rfl) (by omega)) ?_; rintro e w5 ⟨rfl, h5⟩; have HQ5 : Hid _ := h5; clear h5))
      go_ret
      exact ⟨rfl, below_next HB0.out HQ8.out.bel⟩
end Go.Proofs.Ytmjhbckedagjjaa
