import Derived.Test.YtmjhbckedagjjabLCe
namespace Go.Proofs.Ytmjhbckedagjjab
set_option linter.unusedVariables false
set_option linter.unusedSimpArgs false
open Go.RowKit
theorem ply_none {w0 w : World} (hb : Below w0.heap.size w0 w) : Ply w0 w none none := ⟨⟨none, fun _ => False, ⟨fun b h => h.elim, fun _ => False, fun _ => False, ⟨fun b h => h.elim, .inl ⟨rfl, .inl rfl⟩⟩, ⟨fun b h => h.elim, .inl ⟨rfl, rfl⟩⟩, fun b h => h.elim, fun b h => h, fun b h => h⟩, fun b h => h.elim⟩, hb⟩
theorem ply_zero {w0 w : World} (hb : Below w0.heap.size w0 w) {p : Nat} (hp : w0.heap.size ≤ p) (hl : p < w.heap.size) (hc : w.cell? ⟨p, 0, none⟩ = some (.int .i64 0)) : Ply w0 w (some ⟨p, 0, none⟩) none :=
  ⟨⟨none, fun b => b = p, ⟨fun b h => by subst h; exact hl, fun b => b = p, fun _ => False, ⟨fun b h => by subst h; exact hl, .inl ⟨rfl, .inr ⟨p, rfl, hc, rfl⟩⟩⟩, ⟨fun b h => h.elim, .inl ⟨rfl, rfl⟩⟩, fun b _ h => h.elim, fun b h => h, fun b h => h.elim⟩, fun b h => by subst h; exact hp⟩, hb⟩
set_option maxRecDepth 20000 in
set_option maxHeartbeats 3200000 in
theorem cutterNil_walk (ao : Option Addr) (cap : Nat) (xs : List OpD) (w : World) (hr : RdO w ao xs) (hle : xs.length ≤ cap) (hnil : ao = none → cap = 0) (hl : xs.length ≤ 4398046511103) :
    Calls Try.prog 5 #[.slice ao xs.length cap] w fun e w' => e = .returned (.bool true) ∧ Below w.heap.size w w' := by
  have HR : Hid _ := hr
  have HSM : Hid _ := small_t w
  clear hle hnil hr
  go_enter Try.func5, Try.ntmps5
  go_wp2_with (go_at_call 9; refine Calls.mono HSM.out ?_; rintro e w1 ⟨rfl, hb1⟩; have HB1 : Hid _ := hb1; clear hb1)
  go_loopw [5] (fun j wr => ∃ k : Nat, k ≤ xs.length ∧ j = .int .i64 (k : Int) ∧ Below w.heap.size w wr) (fun j _ => xs.length - (intOf j).toNat)
  case atStart => exact ⟨0, Nat.zero_le _, rfl, HB1.out⟩
  case round =>
    obtain ⟨k, hk, rfl, hbw⟩ := hrel
    have HB : Hid _ := hbw
    clear hbw
    by_cases hlt : k < xs.length
    · obtain ⟨b, o, rfl, hok, hrg⟩ := HR.out k hlt
      obtain ⟨op, hop⟩ : ∃ op, op = xs[k] := ⟨_, rfl⟩
      rw [← hop] at hok hrg
      obtain ⟨kd, oi, oa, on, oc, oxs⟩ := op
      have HOK : Hid _ := hok
      have hk0 : (0 : Int) ≤ (k : Int) := by omega
      have hkI : (k : Int) < (xs.length : Int) := by omega
      have hkw : IntKind.i64.wrap ((k : Int) + 1) = ((k + 1 : Nat) : Int) := by rw [IntKind.wrap_i64]; omega
      have HLD : Hid (∀ u, Below w.heap.size w u → _ ∧ _ ∧ _) := fun u hu => op_cells (rangeAt_below hrg hu)
      obtain ⟨l0, l1, l2⟩ := HLD.out _ HB.out
      have hbl : b < w.heap.size := World.block_lt_of_cell? w _ (hrg 0 _ rfl)
      clear hop hok hrg
      go_wp2_with (first | (go_at_call 8; have hh := HP3; refine Calls.mono ((ply_zero (w0 := w) (al HP3.out.bel _) HSZ3.out (by simp) (by rw [cell_of_row _ _ _ _ _ _ (heap_alloc_new _ _)]; kernel_rfl)).ask kd oi oa on oc oxs HOK.out.hn (fun u hu => Rd.below HOK.out.rd hu) HOK.out.nil HOK.out.le) ?_; rintro e w4 ⟨rfl, h4⟩; have HP4 : Hid _ := h4; clear h4) | (go_at_call 8; refine Calls.mono ((ply_none HB.out).ask kd oi oa on oc oxs HOK.out.hn (fun u hu => Rd.below HOK.out.rd hu) HOK.out.nil HOK.out.le) ?_; rintro e w3 ⟨rfl, h3⟩; obtain ⟨m0, m1, m2⟩ := HLD.out _ h3.bel; have HSZ3 : Hid (w.heap.size ≤ w3.heap.size) := h3.bel.size; have hbl3 : b < w3.heap.size := Nat.lt_of_lt_of_le hbl h3.bel.size; have HP3 : Hid _ := h3; clear h3))
      go_roundw
      case rel => exact ⟨k + 1, by omega, by go_num, HP4.out.bel⟩
      case measure => simp [intOf]; omega
    · obtain rfl : k = xs.length := by omega
      have hkI : ¬ (xs.length : Int) < (xs.length : Int) := by omega
      go_wp2
      go_ret
      exact ⟨rfl, HB.out⟩
end Go.Proofs.Ytmjhbckedagjjab
