import Derived.Test.YtdpkommmkcmifaaFit
import Derived.Test.YtdpkommmkcmifaaFar
namespace Go.Proofs.Ytdpkommmkcmifaa
set_option linter.unusedVariables false
set_option linter.unusedSimpArgs false
open Go.RowKit
theorem four_new (w : World) (o1 o2 o3 o4 : Obj) : ((((w.alloc o1).alloc o2).alloc o3).alloc o4).heap[w.heap.size]? = some o1 ∧ ((((w.alloc o1).alloc o2).alloc o3).alloc o4).heap[w.heap.size + 1]? = some o2 ∧ ((((w.alloc o1).alloc o2).alloc o3).alloc o4).heap[w.heap.size + 1 + 1]? = some o3 ∧ ((((w.alloc o1).alloc o2).alloc o3).alloc o4).heap[w.heap.size + 1 + 1 + 1]? = some o4 :=
  ⟨box_on (box_on (two_new w o1 o2).1 (al (Below.refl _ _) _)) (al (Below.refl _ _) _), box_on (box_on (two_new w o1 o2).2 (al (Below.refl _ _) _)) (al (Below.refl _ _) _), box_on (by have := heap_alloc_new ((w.alloc o1).alloc o2) o3; simpa using this) (al (Below.refl _ _) _), by have := heap_alloc_new (((w.alloc o1).alloc o2).alloc o3) o4; simpa using this⟩
theorem rd_row {w : World} {g : Nat} {C : Array Value} {t : TypeId} {xs : List UInt8} (h : w.heap[g]? = some (.cells C t (0, 0))) (hC : C.toList = bv xs) : Rd w (some ⟨g, 0, none⟩) xs := by
  intro _
  refine ⟨g, 0, rfl, fun i hi => ?_⟩
  rw [cell_of_row w g _ _ t _ h, Nat.zero_add, ← Array.getElem?_toList, hC]
  exact bv_get xs i hi
def WrapOutD (w w' : World) (r : Bun × Int) (e : Ending) : Prop :=
  ∃ o a c pa pc n, e = .returned (.tuple #[bunV o a c pa pc, .int .i64 n]) ∧ r = (o, n) ∧ BunR w' o a c pa pc
set_option maxRecDepth 20000 in
set_option maxHeartbeats 1600000 in
theorem wrapRef_any (st : Int) (tm sq lf : Nat) (d : List UInt8) (fa : Option Addr) (fc : Nat) (fr tt : Nat) (nw : Bool) (w : World) (hd : Rd w fa d) (hlc : d.length ≤ fc) (hn : fa = none → fc = 0) (hb : tm < 18446744073709551616 ∧ sq < 18446744073709551616 ∧ lf < 18446744073709551616 ∧ fr < 18446744073709551616 ∧ tt < 18446744073709551616) (hdl : d.length ≤ 140737488351232) :
    Calls Try.prog 16 #[.agg #[.int .i64 st, .int .u64 (tm : Nat), .int .u64 (sq : Nat), .int .u64 (lf : Nat), .slice fa d.length fc], .int .u64 (fr : Nat), .int .u64 (tt : Nat), .bool nw] w fun e w' => WrapOutD w w' (wrapS st tm sq lf d fr tt nw) e ∧ Below w.heap.size w w' := by
  obtain ⟨W0, hW0⟩ : ∃ W0 : World, W0 = (w.alloc (.cells #[.int .i64 st, .int .u64 (tm : Nat), .int .u64 (sq : Nat), .int .u64 (lf : Nat), .slice fa d.length fc] 47)).alloc (.cells #[.int .u64 0, .int .u64 0, .int .u64 0, .int .u64 0, .int .u64 0, .int .u64 0, .int .u64 0, .int .u64 0, .int .u64 0, .int .u64 0, .slice none 0 0, .slice none 0 0] 29) := ⟨_, rfl⟩
  have hF : W0.heap[w.heap.size]? = some (.cells #[.int .i64 st, .int .u64 (tm : Nat), .int .u64 (sq : Nat), .int .u64 (lf : Nat), .slice fa d.length fc] 47 (0, 0)) := by rw [hW0]; exact (two_new w _ _).1
  have hR : W0.heap[w.heap.size + 1]? = some (.cells #[.int .u64 0, .int .u64 0, .int .u64 0, .int .u64 0, .int .u64 0, .int .u64 0, .int .u64 0, .int .u64 0, .int .u64 0, .int .u64 0, .slice none 0 0, .slice none 0 0] 29 (0, 0)) := by rw [hW0]; exact (two_new w _ _).2
  have hb0 : Below w.heap.size w W0 := by rw [hW0]; exact al (al (Below.refl _ _) _) _
  go_enter Try.func16, Try.ntmps16
  go_wp2_with fail
  rw [← hW0]
  clear hW0
  refine (fits_d st tm sq lf d fa fc W0).mono ?_
  rintro e w1 ⟨rfl, hb1⟩
  have hbw := below_next hb0 hb1
  have hF1 := box_on hF hb1
  have hR1 := box_on hR hb1
  obtain ⟨k0, k1, k2, k3, k4, k5, k6, k7, k8, k9, k10, k11, kz0, kz1, kz2, kz3, kz4, kz5, kz6, kz7, kz8, kz9, kz10, kz11⟩ := cells12 hR1
  obtain ⟨f0, f1, f2, f3, f4, -⟩ := cells5W hF1
  clear hF hR
  by_cases hfit : fitF st tm sq lf
  rotate_left
  · have HWS : Hid (wrapS st tm sq lf d fr tt nw = (zeroB, 1)) := by unfold Hid wrapS; rw [if_pos (fun h => hfit h.1)]
    rw [decide_eq_false hfit]
    go_wp2
    have hfin := heap_set12 (v0 := .int .u64 0) (v1 := .int .u64 0) (v2 := .int .u64 0) (v3 := .int .u64 0) (v4 := .int .u64 0) (v5 := .int .u64 0) (v6 := .int .u64 0) (v7 := .int .u64 0) (v8 := .int .u64 0) (v9 := .int .u64 0) (v10 := .slice none 0 0) (v11 := .slice none 0 0) hR1
    refine bodyPost_ret (results_ct rfl _ _ (w.heap.size + 1) 29 _ (0, 0) _ rfl hfin Try.underlying29 rfl (by kernel_rfl)) rfl ?_
    exact ⟨⟨zeroB, none, 0, none, 0, 1, rfl, HWS.out, zeroB_R _⟩, below_set12 hbw (by simp)⟩
  rw [decide_eq_true hfit]
  by_cases hfr : fr ≤ 281474976710655
  rotate_left
  · have HWS : Hid (wrapS st tm sq lf d fr tt nw = (zeroB, 1)) := by unfold Hid wrapS; rw [if_pos (fun h => hfr h.2.1)]
    have hfb : decide ((281474976710655 : Int) < (fr : Int)) = true := decide_eq_true (by omega)
    go_wp2
    have hfin := heap_set12 (v0 := .int .u64 0) (v1 := .int .u64 0) (v2 := .int .u64 0) (v3 := .int .u64 0) (v4 := .int .u64 0) (v5 := .int .u64 0) (v6 := .int .u64 0) (v7 := .int .u64 0) (v8 := .int .u64 0) (v9 := .int .u64 0) (v10 := .slice none 0 0) (v11 := .slice none 0 0) hR1
    refine bodyPost_ret (results_ct rfl _ _ (w.heap.size + 1) 29 _ (0, 0) _ rfl hfin Try.underlying29 rfl (by kernel_rfl)) rfl ?_
    exact ⟨⟨zeroB, none, 0, none, 0, 1, rfl, HWS.out, zeroB_R _⟩, below_set12 hbw (by simp)⟩
  have hfb : decide ((281474976710655 : Int) < (fr : Int)) = false := decide_eq_false (by omega)
  by_cases htt : tt ≤ 281474976710655
  rotate_left
  · have HWS : Hid (wrapS st tm sq lf d fr tt nw = (zeroB, 1)) := by unfold Hid wrapS; rw [if_pos (fun h => htt h.2.2)]
    have htb : decide ((281474976710655 : Int) < (tt : Int)) = true := decide_eq_true (by omega)
    go_wp2
    have hfin := heap_set12 (v0 := .int .u64 0) (v1 := .int .u64 0) (v2 := .int .u64 0) (v3 := .int .u64 0) (v4 := .int .u64 0) (v5 := .int .u64 0) (v6 := .int .u64 0) (v7 := .int .u64 0) (v8 := .int .u64 0) (v9 := .int .u64 0) (v10 := .slice none 0 0) (v11 := .slice none 0 0) hR1
    refine bodyPost_ret (results_ct rfl _ _ (w.heap.size + 1) 29 _ (0, 0) _ rfl hfin Try.underlying29 rfl (by kernel_rfl)) rfl ?_
    exact ⟨⟨zeroB, none, 0, none, 0, 1, rfl, HWS.out, zeroB_R _⟩, below_set12 hbw (by simp)⟩
  have htb : decide ((281474976710655 : Int) < (tt : Int)) = false := decide_eq_false (by omega)
  by_cases h512 : 512 < d.length
  · have HWS : Hid (wrapS st tm sq lf d fr tt nw = (zeroB, 81)) := by unfold Hid wrapS; rw [if_neg (fun h9 => h9 ⟨hfit, hfr, htt⟩), if_pos h512]
    have hdI : (512 : Int) < (d.length : Int) := by omega
    go_wp2
    have hfin := heap_set12 (v0 := .int .u64 0) (v1 := .int .u64 0) (v2 := .int .u64 0) (v3 := .int .u64 0) (v4 := .int .u64 0) (v5 := .int .u64 0) (v6 := .int .u64 0) (v7 := .int .u64 0) (v8 := .int .u64 0) (v9 := .int .u64 0) (v10 := .slice none 0 0) (v11 := .slice none 0 0) hR1
    refine bodyPost_ret (results_ct rfl _ _ (w.heap.size + 1) 29 _ (0, 0) _ rfl hfin Try.underlying29 rfl (by kernel_rfl)) rfl ?_
    exact ⟨⟨zeroB, none, 0, none, 0, 81, rfl, HWS.out, zeroB_R _⟩, below_set12 hbw (by simp)⟩
  have hdI : ¬ ((512 : Int) < (d.length : Int)) := by omega
  have HWS : Hid (wrapS st tm sq lf d fr tt nw = (wrB st tm sq lf d fr tt nw, 0)) := by unfold Hid wrapS; rw [if_neg (fun h9 => h9 ⟨hfit, hfr, htt⟩), if_neg h512]
  have hfit2 := hfit
  obtain ⟨g1, g2, g3, g4, g5⟩ := hfit2
  obtain ⟨s, hs⟩ : ∃ s : Nat, s = st.toNat := ⟨_, rfl⟩
  have hst : st = (s : Int) := by omega
  have hws : IntKind.u64.wrap st = (s : Int) := by rw [IntKind.wrap_u64]; omega
  have HOK : Hid (wrB st tm sq lf d fr tt nw).ok := by
    refine ⟨?_, ?_, ?_, ?_, ?_, ?_, ?_, ?_, ?_, ?_, ?_, ?_, ?_⟩ <;> unfold wrB <;> simp only
    · split <;> omega
    · omega
    · omega
    · omega
    · omega
    · omega
    · omega
    · omega
    · omega
    · omega
    · intro x hx
      simp at hx
      rcases hx with rfl | rfl <;> exact ⟨by decide, by decide, by decide, by decide⟩
    · decide
    · omega
  have HS : Hid (st.toNat = s) := hs.symm
  clear hs hst g1 g2 g3 g4 g5 hfit hfr htt hb
  rcases nw with _ | _
  · go_upto_region 10 with fail
    obtain ⟨V, hV⟩ : ∃ V : World, V = (((w1.alloc (.cells #[.int .u64 5, .int .u64 (tt : Nat), .int .u64 (s : Nat), .int .u64 (fr : Nat), .int .u64 (s : Nat), .int .u64 (fr : Nat), .int .u64 0, .int .u64 (tm : Nat), .int .u64 (sq : Nat), .int .u64 (lf : Nat), .slice (some ⟨w1.heap.size + 1 + 1 + 1, 0, none⟩) 2 2, .slice fa d.length fc] 29)).alloc (.cells #[.int .u8 8, .int .u8 0] 5)).alloc (.cells #[.int .u8 0] 5)).alloc (.cells #[.int .u64 10, .int .u64 2, .int .u64 0, .slice (some ⟨w1.heap.size + 1, 0, none⟩) 2 2, .int .u64 7, .int .u64 3, .int .u64 0, .slice (some ⟨w1.heap.size + 1 + 1, 0, none⟩) 1 1] 40) := ⟨_, rfl⟩
    rw [← hV]
    obtain ⟨hO, hA, hB, hQ⟩ : V.heap[w1.heap.size]? = some (.cells #[.int .u64 5, .int .u64 (tt : Nat), .int .u64 (s : Nat), .int .u64 (fr : Nat), .int .u64 (s : Nat), .int .u64 (fr : Nat), .int .u64 0, .int .u64 (tm : Nat), .int .u64 (sq : Nat), .int .u64 (lf : Nat), .slice (some ⟨w1.heap.size + 1 + 1 + 1, 0, none⟩) 2 2, .slice fa d.length fc] 29 (0, 0)) ∧ V.heap[w1.heap.size + 1]? = some (.cells #[.int .u8 8, .int .u8 0] 5 (0, 0)) ∧ V.heap[w1.heap.size + 1 + 1]? = some (.cells #[.int .u8 0] 5 (0, 0)) ∧ V.heap[w1.heap.size + 1 + 1 + 1]? = some (.cells #[.int .u64 10, .int .u64 2, .int .u64 0, .slice (some ⟨w1.heap.size + 1, 0, none⟩) 2 2, .int .u64 7, .int .u64 3, .int .u64 0, .slice (some ⟨w1.heap.size + 1 + 1, 0, none⟩) 1 1] 40 (0, 0)) := by rw [hV]; exact four_new _ _ _ _ _
    have hbV : Below w1.heap.size w1 V := by rw [hV]; exact al (al (al (al (Below.refl _ _) _) _) _) _
    clear hV k0 k1 k2 k3 k4 k5 k6 k7 k8 k9 k10 k11 kz0 kz1 kz2 kz3 kz4 kz5 kz6 kz7 kz8 kz9 kz10 kz11 f0 f1 f2 f3 f4
    have hRV := box_on hR1 hbV
    obtain ⟨k0, k1, k2, k3, k4, k5, k6, k7, k8, k9, k10, k11, kz0, kz1, kz2, kz3, kz4, kz5, kz6, kz7, kz8, kz9, kz10, kz11⟩ := cells12 hRV
    obtain ⟨o0, o1, o2, o3, o4, o5, o6, o7, o8, o9, o10, o11, oz0, oz1, oz2, oz3, oz4, oz5, oz6, oz7, oz8, oz9, oz10, oz11⟩ := cells12 hO
    have hbwV := below_next hbw hbV
    have hRl : w.heap.size + 1 < w1.heap.size := (Array.getElem?_eq_some_iff.1 hR1).1
    have HBUN : Hid (BunR V (wrB st tm sq lf d fr tt false) (some ⟨w1.heap.size + 1 + 1 + 1, 0, none⟩) 2 fa fc) := by
      refine ⟨fun _ => ⟨_, 0, rfl, fun j hj => ?_⟩, Nat.le_refl _, (fun e => by cases e), hd.below hbwV, hlc, hn, HOK.out⟩
      have hj2 : j = 0 ∨ j = 1 := by simp [wrB] at hj; omega
      rcases hj2 with rfl | rfl
      · exact ⟨some ⟨w1.heap.size + 1, 0, none⟩, 2, by rw [cell_of_row V _ _ _ _ _ hQ]; rfl, by rw [cell_of_row V _ _ _ _ _ hQ]; rfl, by rw [cell_of_row V _ _ _ _ _ hQ]; rfl, by rw [cell_of_row V _ _ _ _ _ hQ]; rfl, rd_row hA rfl, Nat.le_refl _, fun e => by cases e⟩
      · exact ⟨some ⟨w1.heap.size + 1 + 1, 0, none⟩, 1, by rw [cell_of_row V _ _ _ _ _ hQ]; rfl, by rw [cell_of_row V _ _ _ _ _ hQ]; rfl, by rw [cell_of_row V _ _ _ _ _ hQ]; rfl, by rw [cell_of_row V _ _ _ _ _ hQ]; rfl, rd_row hB rfl, Nat.le_refl _, fun e => by cases e⟩
    clear hA hB hQ hd hn
    go_wp2
    have hfin := heap_set12 (v0 := .int .u64 5) (v1 := .int .u64 (tt : Nat)) (v2 := .int .u64 (s : Nat)) (v3 := .int .u64 (fr : Nat)) (v4 := .int .u64 (s : Nat)) (v5 := .int .u64 (fr : Nat)) (v6 := .int .u64 0) (v7 := .int .u64 (tm : Nat)) (v8 := .int .u64 (sq : Nat)) (v9 := .int .u64 (lf : Nat)) (v10 := .slice (some ⟨w1.heap.size + 1 + 1 + 1, 0, none⟩) 2 2) (v11 := .slice fa d.length fc) hRV
    refine bodyPost_ret (results_ct rfl _ _ (w.heap.size + 1) 29 _ (0, 0) _ rfl hfin Try.underlying29 rfl (by kernel_rfl)) rfl ?_
    refine ⟨⟨wrB st tm sq lf d fr tt false, some ⟨w1.heap.size + 1 + 1 + 1, 0, none⟩, 2, fa, fc, 0, ?_, HWS.out, HBUN.out.far gr_set12 (fun q hq => by cases hq; simp; omega) (no8 hRV)⟩, below_set12 hbwV (by simp)⟩
    unfold bunV wrB
    rw [HS.out]
    rfl
  · go_upto_region 10 with fail
    obtain ⟨V, hV⟩ : ∃ V : World, V = (((w1.alloc (.cells #[.int .u64 7, .int .u64 (tt : Nat), .int .u64 (s : Nat), .int .u64 (fr : Nat), .int .u64 (s : Nat), .int .u64 (fr : Nat), .int .u64 0, .int .u64 (tm : Nat), .int .u64 (sq : Nat), .int .u64 (lf : Nat), .slice (some ⟨w1.heap.size + 1 + 1 + 1, 0, none⟩) 2 2, .slice fa d.length fc] 29)).alloc (.cells #[.int .u8 8, .int .u8 0] 5)).alloc (.cells #[.int .u8 0] 5)).alloc (.cells #[.int .u64 10, .int .u64 2, .int .u64 0, .slice (some ⟨w1.heap.size + 1, 0, none⟩) 2 2, .int .u64 7, .int .u64 3, .int .u64 0, .slice (some ⟨w1.heap.size + 1 + 1, 0, none⟩) 1 1] 40) := ⟨_, rfl⟩
    rw [← hV]
    obtain ⟨hO, hA, hB, hQ⟩ : V.heap[w1.heap.size]? = some (.cells #[.int .u64 7, .int .u64 (tt : Nat), .int .u64 (s : Nat), .int .u64 (fr : Nat), .int .u64 (s : Nat), .int .u64 (fr : Nat), .int .u64 0, .int .u64 (tm : Nat), .int .u64 (sq : Nat), .int .u64 (lf : Nat), .slice (some ⟨w1.heap.size + 1 + 1 + 1, 0, none⟩) 2 2, .slice fa d.length fc] 29 (0, 0)) ∧ V.heap[w1.heap.size + 1]? = some (.cells #[.int .u8 8, .int .u8 0] 5 (0, 0)) ∧ V.heap[w1.heap.size + 1 + 1]? = some (.cells #[.int .u8 0] 5 (0, 0)) ∧ V.heap[w1.heap.size + 1 + 1 + 1]? = some (.cells #[.int .u64 10, .int .u64 2, .int .u64 0, .slice (some ⟨w1.heap.size + 1, 0, none⟩) 2 2, .int .u64 7, .int .u64 3, .int .u64 0, .slice (some ⟨w1.heap.size + 1 + 1, 0, none⟩) 1 1] 40 (0, 0)) := by rw [hV]; exact four_new _ _ _ _ _
    have hbV : Below w1.heap.size w1 V := by rw [hV]; exact al (al (al (al (Below.refl _ _) _) _) _) _
    clear hV k0 k1 k2 k3 k4 k5 k6 k7 k8 k9 k10 k11 kz0 kz1 kz2 kz3 kz4 kz5 kz6 kz7 kz8 kz9 kz10 kz11 f0 f1 f2 f3 f4
    have hRV := box_on hR1 hbV
    obtain ⟨k0, k1, k2, k3, k4, k5, k6, k7, k8, k9, k10, k11, kz0, kz1, kz2, kz3, kz4, kz5, kz6, kz7, kz8, kz9, kz10, kz11⟩ := cells12 hRV
    obtain ⟨o0, o1, o2, o3, o4, o5, o6, o7, o8, o9, o10, o11, oz0, oz1, oz2, oz3, oz4, oz5, oz6, oz7, oz8, oz9, oz10, oz11⟩ := cells12 hO
    have hbwV := below_next hbw hbV
    have hRl : w.heap.size + 1 < w1.heap.size := (Array.getElem?_eq_some_iff.1 hR1).1
    have HBUN : Hid (BunR V (wrB st tm sq lf d fr tt true) (some ⟨w1.heap.size + 1 + 1 + 1, 0, none⟩) 2 fa fc) := by
      refine ⟨fun _ => ⟨_, 0, rfl, fun j hj => ?_⟩, Nat.le_refl _, (fun e => by cases e), hd.below hbwV, hlc, hn, HOK.out⟩
      have hj2 : j = 0 ∨ j = 1 := by simp [wrB] at hj; omega
      rcases hj2 with rfl | rfl
      · exact ⟨some ⟨w1.heap.size + 1, 0, none⟩, 2, by rw [cell_of_row V _ _ _ _ _ hQ]; rfl, by rw [cell_of_row V _ _ _ _ _ hQ]; rfl, by rw [cell_of_row V _ _ _ _ _ hQ]; rfl, by rw [cell_of_row V _ _ _ _ _ hQ]; rfl, rd_row hA rfl, Nat.le_refl _, fun e => by cases e⟩
      · exact ⟨some ⟨w1.heap.size + 1 + 1, 0, none⟩, 1, by rw [cell_of_row V _ _ _ _ _ hQ]; rfl, by rw [cell_of_row V _ _ _ _ _ hQ]; rfl, by rw [cell_of_row V _ _ _ _ _ hQ]; rfl, by rw [cell_of_row V _ _ _ _ _ hQ]; rfl, rd_row hB rfl, Nat.le_refl _, fun e => by cases e⟩
    clear hA hB hQ hd hn
    go_wp2
    have hfin := heap_set12 (v0 := .int .u64 7) (v1 := .int .u64 (tt : Nat)) (v2 := .int .u64 (s : Nat)) (v3 := .int .u64 (fr : Nat)) (v4 := .int .u64 (s : Nat)) (v5 := .int .u64 (fr : Nat)) (v6 := .int .u64 0) (v7 := .int .u64 (tm : Nat)) (v8 := .int .u64 (sq : Nat)) (v9 := .int .u64 (lf : Nat)) (v10 := .slice (some ⟨w1.heap.size + 1 + 1 + 1, 0, none⟩) 2 2) (v11 := .slice fa d.length fc) hRV
    refine bodyPost_ret (results_ct rfl _ _ (w.heap.size + 1) 29 _ (0, 0) _ rfl hfin Try.underlying29 rfl (by kernel_rfl)) rfl ?_
    refine ⟨⟨wrB st tm sq lf d fr tt true, some ⟨w1.heap.size + 1 + 1 + 1, 0, none⟩, 2, fa, fc, 0, ?_, HWS.out, HBUN.out.far gr_set12 (fun q hq => by cases hq; simp; omega) (no8 hRV)⟩, below_set12 hbwV (by simp)⟩
    unfold bunV wrB
    rw [HS.out]
    rfl
end Go.Proofs.Ytdpkommmkcmifaa
