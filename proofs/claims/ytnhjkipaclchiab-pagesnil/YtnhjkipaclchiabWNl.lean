import Derived.Test.YtnhjkipaclchiabNA
import Derived.Test.YtnhjkipaclchiabOpenL
namespace Go.Proofs.Ytnhjkipaclchiab
set_option linter.unusedVariables false
set_option linter.unusedSimpArgs false
open Go.RowKit Go.Shelf
section
set_option maxRecDepth 20000
set_option maxHeartbeats 6400000
theorem pagesNil_walk (a : Option Addr) (cap : Nat) (xs : List Stp) (W : World) (hr : RdO W a xs) (hl : xs.length ≤ cap) (hn : a = none → cap = 0) (hc : xs.length ≤ 4398046511103) :
    Calls Try.prog 3 #[.slice a xs.length cap] W fun e W' => e = .returned (.bool true) ∧ Below W.heap.size W W' := by
  obtain ⟨N, hN⟩ : ∃ N, N = xs.length := ⟨_, rfl⟩
  rw [← hN] at hl hc ⊢
  have HR : Hid (RdO W a xs) := hr
  have HN : Hid (N = xs.length) := hN
  obtain ⟨G, hG⟩ : ∃ G, G = W.heap.size := ⟨_, rfl⟩
  have HG : Hid (G = W.heap.size) := hG
  obtain ⟨w1, hw1⟩ : ∃ X : World, X = W.alloc (.cells #[.int .i64 0, .slice none 0 0] tIx) := ⟨_, rfl⟩
  have HB1 : Hid (Below W.heap.size W w1) := (show Below _ _ _ by rw [hw1]; exact al (Below.refl _ _) _)
  have HZ1 : Hid (Zero w1 (.pointer (some ⟨G, 0, none⟩))) := .inr ⟨G, rfl, by rw [hw1, hG]; exact heap_alloc_new W _⟩
  clear hr hN
  go_enter Try.func3, Try.ntmps3
  go_wp2_with fail
  rw [← hw1]
  simp only [← hG]
  clear hw1 hG
  refine Calls.mono (small_t w1) ?_
  rintro e w2 ⟨rfl, hb2⟩
  have HB2 : Hid (Below w1.heap.size w1 w2) := hb2
  clear hb2
  go_wp2_with fail
  go_loopw [6] (fun i wr => ∃ k : Nat, k ≤ N ∧ i = .int .i64 (k : Int) ∧ Below w1.heap.size w1 wr) (fun i _ => N - (intOf i).toNat)
  case atStart => exact ⟨0, Nat.zero_le _, rfl, HB2.out⟩
  case round =>
    obtain ⟨k, hk, rfl, hbel⟩ := hrel
    have HBEL : Hid (Below w1.heap.size w1 wr) := hbel
    clear hbel
    by_cases hlt : k < N
    · have hkx : k < xs.length := by have := HN.out; omega
      obtain ⟨b, o, rfl, hr⟩ := HR.out k hkx
      obtain ⟨kd, t1, t2, tn, hx⟩ : ∃ kd t1 t2 tn, xs[k] = (kd, ⟨(t1, t2), tn⟩) := ⟨_, _, _, _, rfl⟩
      rw [hx] at hr
      have HRX : Hid (∀ u, Below w1.heap.size w1 u → u.rangeAt b (o + k * 4) (opv (kd, ⟨(t1, t2), tn⟩))) := fun u hu => rangeAt_below hr (below_next HB1.out hu)
      have hki : (k : Int) < (N : Int) := by omega
      have hk0 : (0 : Int) ≤ (k : Int) := by omega
      clear hr hx
      go_wp2_with (first | (refine wpList_load_mid rfl tOp _ rfl b (o + k * 4) rfl (opv (kd, ⟨(t1, t2), tn⟩)) _ (HRX.out _ HBEL.out) Try.underlying35 rfl info_op4 ?_))
      refine Calls.mono (ask0_t (x := .pointer none) (.inl rfl) kd t1 t2 tn) ?_
      rintro e w3 ⟨va, rfl, hua, hb3⟩
      have HB3 : Hid (Below w1.heap.size w1 w3) := below_next HBEL.out hb3
      have HUA : Hid (OwnU w3 wr.heap.size va (nilL kd)) := hua
      obtain ⟨aa, ca, hva, -⟩ := OwnU.val hua
      obtain ⟨M, hM⟩ : ∃ M, M = (nilL kd).length := ⟨_, rfl⟩
      rw [← hM] at hva
      subst hva
      clear hua hb3 hM
      go_wp2_with (first | (refine wpList_load_mid rfl tOp _ rfl b (o + k * 4) rfl (opv (kd, ⟨(t1, t2), tn⟩)) _ (HRX.out _ HB3.out) Try.underlying35 rfl info_op4 ?_))
      refine Calls.mono (ask0_t (HZ1.out.below HB3.out) kd t1 t2 tn) ?_
      rintro e w4 ⟨vb, rfl, hub, hb4⟩
      have HB4 : Hid (Below w1.heap.size w1 w4) := below_next HB3.out hb4
      have HUB : Hid (OwnU w4 w3.heap.size vb (nilL kd)) := hub
      have HUA4 : Hid (OwnU w4 wr.heap.size (.slice aa M ca) (nilL kd)) := OwnU.below HUA.out hb4
      obtain ⟨ab, cb, hvb, -⟩ := OwnU.val hub
      obtain ⟨M2, hM2⟩ : ∃ M, M = (nilL kd).length := ⟨_, rfl⟩
      rw [← hM2] at hvb
      subst hvb
      clear hub hb4 hM2 HUA
      go_wp2_with (first | (refine wpList_load_mid rfl tOp _ rfl b (o + k * 4) rfl (opv (kd, ⟨(t1, t2), tn⟩)) _ (HRX.out _ HB4.out) Try.underlying35 rfl info_op4 ?_))
      refine Calls.mono (doc0_t kd t1 t2 tn w4) ?_
      rintro e w5 ⟨vc, rfl, huc, hb5⟩
      have HB5 : Hid (Below w1.heap.size w1 w5) := below_next HB4.out hb5
      have HUC : Hid (OwnU w5 w4.heap.size vc (nilL kd)) := huc
      have HUA5 : Hid (OwnU w5 wr.heap.size (.slice aa M ca) (nilL kd)) := OwnU.below HUA4.out hb5
      have HUB5 : Hid (OwnU w5 w3.heap.size (.slice ab M2 cb) (nilL kd)) := OwnU.below HUB.out hb5
      obtain ⟨ac, cc, hvc, -⟩ := OwnU.val huc
      obtain ⟨M3, hM3⟩ : ∃ M, M = (nilL kd).length := ⟨_, rfl⟩
      rw [← hM3] at hvc
      subst hvc
      clear huc hb5 hM3 HUA4 HUB
      go_wp2_with fail
      refine Calls.mono (same_t w5 (nilL kd) HUA5.out HUC.out (by have := nilL_len kd; omega)) ?_
      rintro e w6 ⟨rfl, hb6⟩
      have HB6 : Hid (Below w1.heap.size w1 w6) := below_next HB5.out hb6
      have HUC6 : Hid (OwnU w6 w4.heap.size (.slice ac M3 cc) (nilL kd)) := OwnU.below HUC.out hb6
      have HUB6 : Hid (OwnU w6 w3.heap.size (.slice ab M2 cb) (nilL kd)) := OwnU.below HUB5.out hb6
      clear hb6
      go_wp2_with fail
      refine Calls.mono (same_t w6 (nilL kd) HUB6.out HUC6.out (by have := nilL_len kd; omega)) ?_
      rintro e w7 ⟨rfl, hb7⟩
      have HB7 : Hid (Below w1.heap.size w1 w7) := below_next HB6.out hb7
      clear hb7
      go_wp2
      go_roundw
      case rel => exact ⟨k + 1, by omega, by go_num, HB7.out⟩
      case measure => simp [intOf]; omega
    · obtain rfl : k = N := by omega
      have hkI : ¬ ((k : Int) < (k : Int)) := by omega
      go_wp2
      go_ret
      exact ⟨rfl, below_next HB1.out HBEL.out⟩
end
end Go.Proofs.Ytnhjkipaclchiab
