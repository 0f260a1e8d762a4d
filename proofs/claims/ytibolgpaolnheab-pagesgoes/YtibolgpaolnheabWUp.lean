import Derived.Test.YtibolgpaolnheabNUp
namespace Go.Proofs.Ytibolgpaolnheab
set_option linter.unusedVariables false
set_option linter.unusedSimpArgs false
open Go.RowKit Go.Shelf
theorem info_sc : (Try.prog.info? tSc).map (·.size) = some 2 := by kernel_rfl
section
set_option maxRecDepth 20000
set_option maxHeartbeats 3200000
theorem pagesPuts_walk (z : Int) (a : Option Addr) (cap : Nat) (xs : List Stp) (W : World) (hr : RdO W a xs) (hl : xs.length ≤ cap) (hn : a = none → cap = 0) (hc : xs.length ≤ 4398046511103) :
    Calls Try.prog 5 #[.agg #[.int .i64 z, .slice a xs.length cap]] W fun e W' => e = .returned (.bool true) ∧ Below W.heap.size W W' := by
  obtain ⟨N, hN⟩ : ∃ N, N = xs.length := ⟨_, rfl⟩
  have HUP : Hid (∀ lo hi u, RdO u a xs → Calls Try.prog 14 #[.agg #[.int .i64 z, .slice a N cap], .int .i64 lo, .int .i64 hi] u fun e W' => e = .returned (.bool true) ∧ Below u.heap.size u W') := (fun lo hi u hu => by rw [hN]; exact lawUpTo_t z lo hi a cap xs u hu hl hn hc)
  rw [← hN]
  obtain ⟨w1, hw1⟩ : ∃ X : World, X = W.alloc (.cells #[.int .i64 z, .slice a N cap] tSc) := ⟨_, rfl⟩
  have HB1 : Hid (Below W.heap.size W w1) := (show Below _ _ _ by rw [hw1]; exact al (Below.refl _ _) _)
  have HLD : Hid ((W.alloc (.cells #[.int .i64 z, .slice a N cap] tSc)).rangeAt W.heap.size 0 [.int .i64 z, .slice a N cap]) := box_range (heap_alloc_new W _)
  have HR : Hid (RdO W a xs) := hr
  clear hr hl hn hc hN
  go_enter Try.func5, Try.ntmps5
  go_wp2_with (first | (refine wpList_load_mid rfl tSc _ rfl W.heap.size 0 rfl [.int .i64 z, .slice a N cap] _ HLD.out Try.underlying40 rfl info_sc ?_))
  rw [← hw1]
  clear hw1
  refine Calls.mono (HUP.out _ _ w1 (HR.out.below HB1.out)) ?_
  rintro e w2 ⟨rfl, hb2⟩
  have HB2 : Hid (Below W.heap.size W w2) := below_next HB1.out hb2
  clear hb2
  go_wp2
  go_ret
  exact ⟨rfl, HB2.out⟩
theorem pagesShapes_walk (z : Int) (a : Option Addr) (cap : Nat) (xs : List Stp) (W : World) (hr : RdO W a xs) (hl : xs.length ≤ cap) (hn : a = none → cap = 0) (hc : xs.length ≤ 4398046511103) :
    Calls Try.prog 6 #[.agg #[.int .i64 z, .slice a xs.length cap]] W fun e W' => e = .returned (.bool true) ∧ Below W.heap.size W W' := by
  obtain ⟨N, hN⟩ : ∃ N, N = xs.length := ⟨_, rfl⟩
  have HUP : Hid (∀ lo hi u, RdO u a xs → Calls Try.prog 14 #[.agg #[.int .i64 z, .slice a N cap], .int .i64 lo, .int .i64 hi] u fun e W' => e = .returned (.bool true) ∧ Below u.heap.size u W') := (fun lo hi u hu => by rw [hN]; exact lawUpTo_t z lo hi a cap xs u hu hl hn hc)
  rw [← hN]
  obtain ⟨w1, hw1⟩ : ∃ X : World, X = W.alloc (.cells #[.int .i64 z, .slice a N cap] tSc) := ⟨_, rfl⟩
  have HB1 : Hid (Below W.heap.size W w1) := (show Below _ _ _ by rw [hw1]; exact al (Below.refl _ _) _)
  have HLD : Hid ((W.alloc (.cells #[.int .i64 z, .slice a N cap] tSc)).rangeAt W.heap.size 0 [.int .i64 z, .slice a N cap]) := box_range (heap_alloc_new W _)
  have HR : Hid (RdO W a xs) := hr
  clear hr hl hn hc hN
  go_enter Try.func6, Try.ntmps6
  go_wp2_with (first | (refine wpList_load_mid rfl tSc _ rfl W.heap.size 0 rfl [.int .i64 z, .slice a N cap] _ HLD.out Try.underlying40 rfl info_sc ?_))
  rw [← hw1]
  clear hw1
  refine Calls.mono (HUP.out _ _ w1 (HR.out.below HB1.out)) ?_
  rintro e w2 ⟨rfl, hb2⟩
  have HB2 : Hid (Below W.heap.size W w2) := below_next HB1.out hb2
  clear hb2
  go_wp2
  go_ret
  exact ⟨rfl, HB2.out⟩
theorem pagesLooks_walk (z : Int) (a : Option Addr) (cap : Nat) (xs : List Stp) (W : World) (hr : RdO W a xs) (hl : xs.length ≤ cap) (hn : a = none → cap = 0) (hc : xs.length ≤ 4398046511103) :
    Calls Try.prog 7 #[.agg #[.int .i64 z, .slice a xs.length cap]] W fun e W' => e = .returned (.bool true) ∧ Below W.heap.size W W' := by
  obtain ⟨N, hN⟩ : ∃ N, N = xs.length := ⟨_, rfl⟩
  have HUP : Hid (∀ lo hi u, RdO u a xs → Calls Try.prog 14 #[.agg #[.int .i64 z, .slice a N cap], .int .i64 lo, .int .i64 hi] u fun e W' => e = .returned (.bool true) ∧ Below u.heap.size u W') := (fun lo hi u hu => by rw [hN]; exact lawUpTo_t z lo hi a cap xs u hu hl hn hc)
  rw [← hN]
  obtain ⟨w1, hw1⟩ : ∃ X : World, X = W.alloc (.cells #[.int .i64 z, .slice a N cap] tSc) := ⟨_, rfl⟩
  have HB1 : Hid (Below W.heap.size W w1) := (show Below _ _ _ by rw [hw1]; exact al (Below.refl _ _) _)
  have HLD : Hid ((W.alloc (.cells #[.int .i64 z, .slice a N cap] tSc)).rangeAt W.heap.size 0 [.int .i64 z, .slice a N cap]) := box_range (heap_alloc_new W _)
  have HR : Hid (RdO W a xs) := hr
  clear hr hl hn hc hN
  go_enter Try.func7, Try.ntmps7
  go_wp2_with (first | (refine wpList_load_mid rfl tSc _ rfl W.heap.size 0 rfl [.int .i64 z, .slice a N cap] _ HLD.out Try.underlying40 rfl info_sc ?_))
  rw [← hw1]
  clear hw1
  refine Calls.mono (HUP.out _ _ w1 (HR.out.below HB1.out)) ?_
  rintro e w2 ⟨rfl, hb2⟩
  have HB2 : Hid (Below W.heap.size W w2) := below_next HB1.out hb2
  clear hb2
  go_wp2
  go_ret
  exact ⟨rfl, HB2.out⟩
theorem pagesGoes_walk (z : Int) (a : Option Addr) (cap : Nat) (xs : List Stp) (W : World) (hr : RdO W a xs) (hl : xs.length ≤ cap) (hn : a = none → cap = 0) (hc : xs.length ≤ 4398046511103) :
    Calls Try.prog 8 #[.agg #[.int .i64 z, .slice a xs.length cap]] W fun e W' => e = .returned (.bool true) ∧ Below W.heap.size W W' := by
  obtain ⟨N, hN⟩ : ∃ N, N = xs.length := ⟨_, rfl⟩
  have HUP : Hid (∀ lo hi u, RdO u a xs → Calls Try.prog 14 #[.agg #[.int .i64 z, .slice a N cap], .int .i64 lo, .int .i64 hi] u fun e W' => e = .returned (.bool true) ∧ Below u.heap.size u W') := (fun lo hi u hu => by rw [hN]; exact lawUpTo_t z lo hi a cap xs u hu hl hn hc)
  rw [← hN]
  obtain ⟨w1, hw1⟩ : ∃ X : World, X = W.alloc (.cells #[.int .i64 z, .slice a N cap] tSc) := ⟨_, rfl⟩
  have HB1 : Hid (Below W.heap.size W w1) := (show Below _ _ _ by rw [hw1]; exact al (Below.refl _ _) _)
  have HLD : Hid ((W.alloc (.cells #[.int .i64 z, .slice a N cap] tSc)).rangeAt W.heap.size 0 [.int .i64 z, .slice a N cap]) := box_range (heap_alloc_new W _)
  have HR : Hid (RdO W a xs) := hr
  clear hr hl hn hc hN
  go_enter Try.func8, Try.ntmps8
  go_wp2_with (first | (refine wpList_load_mid rfl tSc _ rfl W.heap.size 0 rfl [.int .i64 z, .slice a N cap] _ HLD.out Try.underlying40 rfl info_sc ?_))
  rw [← hw1]
  clear hw1
  refine Calls.mono (HUP.out _ _ w1 (HR.out.below HB1.out)) ?_
  rintro e w2 ⟨rfl, hb2⟩
  have HB2 : Hid (Below W.heap.size W w2) := below_next HB1.out hb2
  clear hb2
  go_wp2
  go_ret
  exact ⟨rfl, HB2.out⟩
end
end Go.Proofs.Ytibolgpaolnheab
