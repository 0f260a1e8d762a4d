import Derived.Test.YtinphflminaijaaDoorTurn
import Derived.Test.YtinphflminaijaaDoorOpen
namespace Go.Proofs.YtinphflminaijaaDoor
set_option linter.unusedVariables false
set_option linter.unusedSimpArgs false
open Go.RowKit
theorem i64_of {n : Int} (h : (Lit.int .i64 n).wf = true) : -9223372036854775808 ≤ n ∧ n ≤ 9223372036854775807 := by
  simpa [Lit.wf, IntKind.min, IntKind.max, IntKind.signed, IntKind.bits] using h
theorem u32_of {n : Int} (h : (Lit.int .u32 n).wf = true) : ∃ m : Nat, n = m ∧ (m : Int) ≤ 4294967295 := by
  have h2 : 0 ≤ n ∧ n ≤ 4294967295 := by simpa [Lit.wf, IntKind.min, IntKind.max, IntKind.signed, IntKind.bits] using h
  exact ⟨n.toNat, by omega, by omega⟩
set_option maxRecDepth 20000 in
set_option maxHeartbeats 800000 in
theorem octetTwice_walk (a0 : Option Addr) (cap0 : Nat) (xs0 : List UInt8) (n1 n2 : Int) (w : World) (hr0 : Rd w a0 xs0) (hl0 : xs0.length ≤ cap0) (hc0 : cap0 ≤ 140737488351232) (hn0 : a0 = none → cap0 = 0)
    (w1 : (Lit.int .i64 n1).wf = true) (w2 : (Lit.int .u32 n2).wf = true) (ht : TabOk w) :
    Calls Tryd.prog 5 #[.slice a0 xs0.length cap0, .int .i64 n1, .int .u32 n2] w fun e w' => e = .returned (.bool true) ∧ Below w.heap.size w w' := by
  obtain ⟨m2, rfl, hm2⟩ := u32_of w2
  obtain ⟨ha0, ha1⟩ := i64_of w1
  clear w1 w2
  have HN : Hid (a0 = none → cap0 = 0) := hn0
  clear hn0
  have hcv : ∀ u, Below w.heap.size w u → (convert 22 9 (.slice a0 xs0.length cap0)).run Tryd.prog u = .ok (.string ⟨xs0.toArray⟩) u := fun u hu => conv_rd (hr0.below hu) _ cap0 rfl
  go_enter Tryd.func5, Tryd.ntmps5
  go_wp2_with fail
  refine wp_region_noPanic ?_
  refine wp_region_held_drew (S := (fun u => Below w.heap.size w u)) (by kernel_rfl) (by first | exact (Below.refl _ _).drew | assumption) (fun hHeld => ?_)
  refine run_at (i := 0) rfl (by kernel_rfl) (by rfl) (fun K hK => ?_)
  simp only [List.getElem_toArray, List.getElem_cons_zero, List.getElem_cons_succ]
  go_simp
  first | (go_at_call 7; refine (knows_any _ (ht.below (Below.refl _ _).drew)).mono ?_; rintro e wk ⟨rfl, hbk⟩; have hSk : Below w.heap.size w wk := ((Below.refl _ _).drew).trans hbk; have hrk := hr0.below hSk) | (go_at_call_of 11 (Value.slice a0 xs0.length cap0); refine (burst_any a0 cap0 xs0 n1 m2 _ hrk HN.out (by omega) ha0 ha1 hm2).mono ?_; rintro e w2 ⟨v2, rfl, hown2, hb2⟩; have hS2 : Below w.heap.size w w2 := hSk.trans (hb2.mono hSk.size); obtain ⟨ao2, cp2, hv2, -, -, hn2, hr2, -⟩ := hown2.val; rw [bst_len] at hv2; subst hv2) | (go_at_call 11; have hq := burst_any ao2 cp2 (bst n1 m2 xs0 32) n1 m2 w2 hr2 hn2 (by rw [bst_len]; omega) ha0 ha1 hm2; rw [bst_twice, bst_len] at hq; refine hq.mono ?_; rintro e w3 ⟨v3, rfl, hown3, hb3⟩; have hS3 : Below w.heap.size w w3 := hS2.trans (hb3.mono hS2.size); obtain ⟨ao3, cp3, rfl, -, -, -, hr3, -⟩ := hown3.val; have hcv3 := conv_rd hr3 _ cp3 rfl)
  go_wp2_with fail
  refine hK.out _ _ (by first | exact (Below.refl _ _).drew | assumption) (fun hHeld2 => ?_)
  clear hK K hHeld
  have hHeld := hHeld2
  clear hHeld2
  try simp only [Act.put, List.setIfInBounds_toArray, List.set_cons_zero, List.set_cons_succ]
  refine take_at (i := 1) 8 (v := ?vq1) rfl rfl (by kernel_rfl) (by kernel_rfl) (by kernel_rfl) (fun _ _ _ h => h) (by rfl) ?hq1 hHeld ?rq1
  case hq1 => (intro w hSw; (try dsimp only at hSw); go_simp; try with_reducible rfl)
  simp only [Act.put, List.setIfInBounds_toArray, List.set_cons_zero, List.set_cons_succ]
  refine take_at (i := 2) 9 (v := ?vq2) rfl rfl (by kernel_rfl) (by kernel_rfl) (by kernel_rfl) (fun _ _ _ h => h) (by rfl) ?hq2 hHeld ?rq2
  case hq2 => (intro w hSw; (try dsimp only at hSw); go_simp; try with_reducible rfl)
  simp only [Act.put, List.setIfInBounds_toArray, List.set_cons_zero, List.set_cons_succ]
  refine take_at (i := 3) 10 (v := ?vq3) rfl rfl (by kernel_rfl) (by kernel_rfl) (by kernel_rfl) (fun _ _ _ h => h) (by rfl) ?hq3 hHeld ?rq3
  case hq3 => (intro w hSw; (try dsimp only at hSw); go_simp; try with_reducible rfl)
  simp only [Act.put, List.setIfInBounds_toArray, List.set_cons_zero, List.set_cons_succ]
  refine take_at (i := 4) 11 (v := ?vq4) rfl rfl (by kernel_rfl) (by kernel_rfl) (by kernel_rfl) (fun _ _ _ h => h) (by rfl) ?hq4 hHeld ?rq4
  case hq4 => (intro w hSw; (try dsimp only at hSw); go_simp; try with_reducible rfl)
  simp only [Act.put, List.setIfInBounds_toArray, List.set_cons_zero, List.set_cons_succ]
  refine take_at (i := 6) 13 (v := ?vq5) rfl rfl (by kernel_rfl) (by kernel_rfl) (by kernel_rfl) (fun _ _ _ h => h) (by rfl) ?hq5 hHeld ?rq5
  case hq5 => (intro w hSw; (try dsimp only at hSw); go_simp; try with_reducible rfl)
  simp only [Act.put, List.setIfInBounds_toArray, List.set_cons_zero, List.set_cons_succ]
  refine take_at (i := 7) 14 (v := ?vq6) rfl rfl (by kernel_rfl) (by kernel_rfl) (by kernel_rfl) (fun _ _ _ h => h) (by rfl) ?hq6 hHeld ?rq6
  case hq6 => (intro w hSw; (try dsimp only at hSw); go_simp; try with_reducible rfl)
  simp only [Act.put, List.setIfInBounds_toArray, List.set_cons_zero, List.set_cons_succ]
  refine take_at (i := 10) 17 (v := ?vq7) rfl rfl (by kernel_rfl) (by kernel_rfl) (by kernel_rfl) (fun _ _ _ h => h) (by rfl) ?hq7 hHeld ?rq7
  case hq7 => (intro w hSw; (try dsimp only at hSw); go_simp; try with_reducible rfl)
  simp only [Act.put, List.setIfInBounds_toArray, List.set_cons_zero, List.set_cons_succ]
  refine take_at (i := 11) 18 (v := ?vq8) rfl rfl (by kernel_rfl) (by kernel_rfl) (by kernel_rfl) (fun _ _ _ h => h) (by rfl) ?hq8 hHeld ?rq8
  case hq8 => (intro w hSw; (try dsimp only at hSw); go_simp; try with_reducible rfl)
  simp only [Act.put, List.setIfInBounds_toArray, List.set_cons_zero, List.set_cons_succ]
  refine run_at (i := 5) rfl (by kernel_rfl) (by rfl) (fun K hK => ?_)
  simp only [List.getElem_toArray, List.getElem_cons_zero, List.getElem_cons_succ]
  go_simp
  first | (go_at_call 7; refine (knows_any _ (ht.below (Below.refl _ _).drew)).mono ?_; rintro e wk ⟨rfl, hbk⟩; have hSk : Below w.heap.size w wk := ((Below.refl _ _).drew).trans hbk; have hrk := hr0.below hSk) | (go_at_call_of 11 (Value.slice a0 xs0.length cap0); refine (burst_any a0 cap0 xs0 n1 m2 _ hrk HN.out (by omega) ha0 ha1 hm2).mono ?_; rintro e w2 ⟨v2, rfl, hown2, hb2⟩; have hS2 : Below w.heap.size w w2 := hSk.trans (hb2.mono hSk.size); obtain ⟨ao2, cp2, hv2, -, -, hn2, hr2, -⟩ := hown2.val; rw [bst_len] at hv2; subst hv2) | (go_at_call 11; have hq := burst_any ao2 cp2 (bst n1 m2 xs0 32) n1 m2 w2 hr2 hn2 (by rw [bst_len]; omega) ha0 ha1 hm2; rw [bst_twice, bst_len] at hq; refine hq.mono ?_; rintro e w3 ⟨v3, rfl, hown3, hb3⟩; have hS3 : Below w.heap.size w w3 := hS2.trans (hb3.mono hS2.size); obtain ⟨ao3, cp3, rfl, -, -, -, hr3, -⟩ := hown3.val; have hcv3 := conv_rd hr3 _ cp3 rfl)
  go_wp2_with fail
  refine hK.out _ _ (by first | exact (Below.refl _ _).drew | assumption) (fun hHeld2 => ?_)
  clear hK K hHeld
  have hHeld := hHeld2
  clear hHeld2
  try simp only [Act.put, List.setIfInBounds_toArray, List.set_cons_zero, List.set_cons_succ]
  refine run_at (i := 8) rfl (by kernel_rfl) (by rfl) (fun K hK => ?_)
  simp only [List.getElem_toArray, List.getElem_cons_zero, List.getElem_cons_succ]
  go_simp
  first | (go_at_call 7; refine (knows_any _ (ht.below (Below.refl _ _).drew)).mono ?_; rintro e wk ⟨rfl, hbk⟩; have hSk : Below w.heap.size w wk := ((Below.refl _ _).drew).trans hbk; have hrk := hr0.below hSk) | (go_at_call_of 11 (Value.slice a0 xs0.length cap0); refine (burst_any a0 cap0 xs0 n1 m2 _ hrk HN.out (by omega) ha0 ha1 hm2).mono ?_; rintro e w2 ⟨v2, rfl, hown2, hb2⟩; have hS2 : Below w.heap.size w w2 := hSk.trans (hb2.mono hSk.size); obtain ⟨ao2, cp2, hv2, -, -, hn2, hr2, -⟩ := hown2.val; rw [bst_len] at hv2; subst hv2) | (go_at_call 11; have hq := burst_any ao2 cp2 (bst n1 m2 xs0 32) n1 m2 w2 hr2 hn2 (by rw [bst_len]; omega) ha0 ha1 hm2; rw [bst_twice, bst_len] at hq; refine hq.mono ?_; rintro e w3 ⟨v3, rfl, hown3, hb3⟩; have hS3 : Below w.heap.size w w3 := hS2.trans (hb3.mono hS2.size); obtain ⟨ao3, cp3, rfl, -, -, -, hr3, -⟩ := hown3.val; have hcv3 := conv_rd hr3 _ cp3 rfl)
  go_wp2_with fail
  refine hK.out _ _ (by first | exact (Below.refl _ _).drew | assumption) (fun hHeld2 => ?_)
  clear hK K hHeld
  have hHeld := hHeld2
  clear hHeld2
  try simp only [Act.put, List.setIfInBounds_toArray, List.set_cons_zero, List.set_cons_succ]
  refine val_at (i := 9) 16 (v := ?vq9) rfl rfl (by kernel_rfl) (by rfl) ?hq9 ?sq9 ?rq9
  case hq9 => (go_simp; try with_reducible rfl)
  case sq9 => (first | exact (Below.refl _ _).drew | assumption)
  intro hHeld2
  clear hHeld
  have hHeld := hHeld2
  clear hHeld2
  simp only [Act.put, List.setIfInBounds_toArray, List.set_cons_zero, List.set_cons_succ]
  refine take_at (i := 12) 19 (v := ?vq10) rfl rfl (by kernel_rfl) (by kernel_rfl) (by kernel_rfl) (fun _ _ _ h => h) (by rfl) ?hq10 hHeld ?rq10
  case hq10 => (intro w hSw; (try dsimp only at hSw); go_simp; try with_reducible rfl)
  simp only [Act.put, List.setIfInBounds_toArray, List.set_cons_zero, List.set_cons_succ]
  refine take_at (i := 13) 20 (v := ?vq11) rfl rfl (by kernel_rfl) (by kernel_rfl) (by kernel_rfl) (fun _ _ _ h => h) (by rfl) ?hq11 hHeld ?rq11
  case hq11 => (intro w hSw; (try dsimp only at hSw); go_simp; try with_reducible rfl)
  simp only [Act.put, List.setIfInBounds_toArray, List.set_cons_zero, List.set_cons_succ]
  refine take_at (i := 14) 6 (v := ?vq12) rfl rfl (by kernel_rfl) (by kernel_rfl) (by kernel_rfl) (fun _ _ _ h => h) (by rfl) ?hq12 hHeld ?rq12
  case hq12 => (intro w hSw; (try dsimp only at hSw); go_simp; try with_reducible rfl)
  simp only [Act.put, List.setIfInBounds_toArray, List.set_cons_zero, List.set_cons_succ]
  refine wpAnyH_done (by kernel_rfl) ?_ _
  refine NoPanic.normal ?_
  go_wp2
  go_ret
  exact ⟨rfl, hHeld⟩
end Go.Proofs.YtinphflminaijaaDoor
