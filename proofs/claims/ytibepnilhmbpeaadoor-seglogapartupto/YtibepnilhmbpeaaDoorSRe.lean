import Derived.Test.YtibepnilhmbpeaaDoorSRd
import Derived.Test.YtibepnilhmbpeaaDoorSQg
namespace Go.Proofs.YtibepnilhmbpeaaDoor
set_option linter.unusedVariables false
set_option linter.unusedSimpArgs false
open Go.RowKit
/-- a piece's own writing -/
def pcO (A Z : Nat) (l : Lb) (Y : List UInt8) : Wop := .w (secN A Z l.n) (pcT l.n l.e l.len l.i Y)
structure Lb.ok (l : Lb) : Prop where
  n : l.n < 18446744073709551616
  e : l.e < 18446744073709551616
  len : l.len < 9223372036854775808
  i : l.i < 9223372036854775808
set_option maxRecDepth 20000 in
set_option maxHeartbeats 3200000 in
theorem writePiece_t {w : World} {p n : Nat} {d : Dst} {F : Nat → Prop} (hd : Dsk w p d n F) (A Z : Nat) (l : Lb) (hk : l.ok) (a : Option Addr) (c : Nat) (Y : List UInt8) (hY : Rd w a Y) (hYL : Y.length ≤ 104) (hnil : a = none → c = 0) (hZ : 3 ≤ Z) (hAZ : A + Z ≤ d.S.length) (hn : n < 1099511627776) (ht : TabOk w) :
    Calls Tryd.prog 53 #[plV p A Z, pcV l.n l.e l.len l.i (.slice a Y.length c)] w fun e w' => e = .returned (.int .i64 (opE d.can)) ∧ DLft w p (Wop.act d (pcO A Z l Y)) (n + 1) F w' := by
  have hsz := hd.size
  obtain ⟨s, hs⟩ : ∃ s, s = secN A Z l.n := ⟨_, rfl⟩
  have hsl : s < d.S.length := by rw [hs]; have := (secN_lt (A := A) (Z := Z) (n := l.n) hZ).2; omega
  obtain ⟨X, hX⟩ : ∃ X, X = pcT l.n l.e l.len l.i Y := ⟨_, rfl⟩
  have HXL : Hid (X.length = 128) := by unfold Hid; rw [hX]; exact pcT_len _ _ _ _ _ hYL
  have HSE : Hid (∀ u, Calls Tryd.prog 68 #[plV p A Z, .int .u64 (l.n : Int)] u fun e w' => e = .returned (.int .i64 (s : Int)) ∧ Below u.heap.size u w') := fun u => by rw [hs]; exact sector_t p A Z l.n hZ (by omega) (by omega) hk.n u
  have HTX : Hid (∀ u, Below w.heap.size w u → Calls _ _ _ u _) := fun u hu => pieceText_t l.n l.e l.len l.i a Y.length c Y rfl hYL hnil hk.n hk.e hk.len hk.i u (Rd.below hY hu) (ht.below hu)
  have HX : Hid (X = pcT l.n l.e l.len l.i Y) := hX
  have HAC : Hid (Wop.act d (pcO A Z l Y) = d.write s X) := by unfold Hid pcO; rw [← hs, ← hX]; rfl
  have HD : Hid (Dsk w p d n F) := hd
  obtain ⟨E4, hE4⟩ : ∃ E4 : Int, E4 = if d.can then 0 else 5 := ⟨_, rfl⟩
  have HE4 : Hid (E4 = if d.can then 0 else 5) := hE4
  have HE5 : Hid (opE d.can = E4) := hE4.symm
  clear hd ht hX hs hk hE4 hY hAZ
  go_enter Tryd.func53, Tryd.ntmps53
  go_wp2_with fail
  have hb0 : Below w.heap.size w ((w.alloc (.cells (plC p A Z) tPl)).alloc (.cells #[.int .u64 (l.n : Int), .int .u64 (l.e : Int), .int .i64 (l.len : Int), .int .i64 (l.i : Int), .slice a Y.length c] tPc)) := alS (alS (Below.refl _ _) _) _
  have hbx : ((w.alloc (.cells (plC p A Z) tPl)).alloc (.cells #[.int .u64 (l.n : Int), .int .u64 (l.e : Int), .int .i64 (l.len : Int), .int .i64 (l.i : Int), .slice a Y.length c] tPc)).heap[w.heap.size]? = some (.cells (plC p A Z) tPl (0, 0)) := below_blk (alS (Below.refl _ _) _) (heap_alloc_new w _)
  have hbh : ((w.alloc (.cells (plC p A Z) tPl)).alloc (.cells #[.int .u64 (l.n : Int), .int .u64 (l.e : Int), .int .i64 (l.len : Int), .int .i64 (l.i : Int), .slice a Y.length c] tPc)).heap[w.heap.size + 1]? = some (.cells #[.int .u64 (l.n : Int), .int .u64 (l.e : Int), .int .i64 (l.len : Int), .int .i64 (l.i : Int), .slice a Y.length c] tPc (0, 0)) := by
    have h9 := heap_alloc_new (w.alloc (.cells (plC p A Z) tPl)) (.cells #[.int .u64 (l.n : Int), .int .u64 (l.e : Int), .int .i64 (l.len : Int), .int .i64 (l.i : Int), .slice a Y.length c] tPc)
    rw [show (w.alloc (.cells (plC p A Z) tPl)).heap.size = w.heap.size + 1 by simp] at h9
    exact h9
  generalize ((w.alloc (.cells (plC p A Z) tPl)).alloc (.cells #[.int .u64 (l.n : Int), .int .u64 (l.e : Int), .int .i64 (l.len : Int), .int .i64 (l.i : Int), .slice a Y.length c] tPc)) = W0 at *
  have HB0 : Hid (Below w.heap.size w W0) := hb0
  have HLT : Hid (∀ b, F b → b < w.heap.size) := HD.out.lt
  have HC : Hid (∀ u, Chg F W0 u → u.heap[w.heap.size]? = some (.cells (plC p A Z) tPl (0, 0)) ∧ u.heap[w.heap.size + 1]? = some (.cells #[.int .u64 (l.n : Int), .int .u64 (l.e : Int), .int .i64 (l.len : Int), .int .i64 (l.i : Int), .slice a Y.length c] tPc (0, 0))) := fun u hu => ⟨(hu.block _ (Array.getElem?_eq_some_iff.1 hbx).1 (fun h => by have := HLT.out _ h; omega)).trans hbx, (hu.block _ (Array.getElem?_eq_some_iff.1 hbh).1 (fun h => by have := HLT.out _ h; omega)).trans hbh⟩
  have HPW : Hid (p < w.heap.size) := HD.out.lt p HD.out.inF
  have HD0 : Hid (Chg F W0 W0.drew) := Chg.of_below (Below.refl _ _).drew
  clear hb0 hbx hbh
  refine wp_region_held_drew (S := (fun u => Chg F W0 u)) (by kernel_rfl) (by first | exact HD0.out | exact HC4.out | exact HC3.out | exact HC2.out | assumption) (fun hHeld => ?_)
  refine take_at (i := 0) 5 (v := ?_) rfl rfl (by kernel_rfl) (by kernel_rfl) (by kernel_rfl) (fun _ _ _ h => h) (by rfl) ?_ hHeld ?_
  rotate_left
  · (intro w hSw; (try dsimp only at hSw); go_simp; try with_reducible rfl)
  simp only [Act.put, List.setIfInBounds_toArray, List.set_cons_zero, List.set_cons_succ]
  refine take_at (i := 1) 6 (v := .pointer (some ⟨p, 0, none⟩)) rfl rfl (by kernel_rfl) (by kernel_rfl) (by kernel_rfl) (fun _ _ _ h => h) (by rfl) ?_ hHeld ?_
  · (intro w hSw; have hc9 := (cellsP3 (HC.out _ hSw).1).1; go_simp; try with_reducible rfl)
  simp only [Act.put, List.setIfInBounds_toArray, List.set_cons_zero, List.set_cons_succ]
  refine take_at (i := 2) 7 (v := plV p A Z) rfl rfl (by kernel_rfl) (by kernel_rfl) (by kernel_rfl) (fun _ _ _ h => h) (by rfl) ?_ hHeld ?_
  · (intro w hSw; refine exec_load (by rfl) ?_; exact plLoad (HC.out _ hSw).1)
  simp only [Act.put, List.setIfInBounds_toArray, List.set_cons_zero, List.set_cons_succ]
  refine take_at (i := 3) 8 (v := ?_) rfl rfl (by kernel_rfl) (by kernel_rfl) (by kernel_rfl) (fun _ _ _ h => h) (by rfl) ?_ hHeld ?_
  rotate_left
  · (intro w hSw; (try dsimp only at hSw); go_simp; try with_reducible rfl)
  simp only [Act.put, List.setIfInBounds_toArray, List.set_cons_zero, List.set_cons_succ]
  refine take_at (i := 4) 9 (v := ?_) rfl rfl (by kernel_rfl) (by kernel_rfl) (by kernel_rfl) (fun _ _ _ h => h) (by rfl) ?_ hHeld ?_
  rotate_left
  · (intro w hSw; (try dsimp only at hSw); go_simp; try with_reducible rfl)
  simp only [Act.put, List.setIfInBounds_toArray, List.set_cons_zero, List.set_cons_succ]
  refine take_at (i := 5) 10 (v := .int .u64 (l.n : Int)) rfl rfl (by kernel_rfl) (by kernel_rfl) (by kernel_rfl) (fun _ _ _ h => h) (by rfl) ?_ hHeld ?_
  · (intro w hSw; have hc9 := (cells5 (HC.out _ hSw).2).1; go_simp; try with_reducible rfl)
  simp only [Act.put, List.setIfInBounds_toArray, List.set_cons_zero, List.set_cons_succ]
  refine take_at (i := 7) 12 (v := .agg #[.int .u64 (l.n : Int), .int .u64 (l.e : Int), .int .i64 (l.len : Int), .int .i64 (l.i : Int), .slice a Y.length c]) rfl rfl (by kernel_rfl) (by kernel_rfl) (by kernel_rfl) (fun _ _ _ h => h) (by rfl) ?_ hHeld ?_
  · (intro w hSw; refine exec_load (by rfl) ?_; exact pcLoad (cells5 (HC.out _ hSw).2))
  simp only [Act.put, List.setIfInBounds_toArray, List.set_cons_zero, List.set_cons_succ]
  refine run_at (i := 6) rfl (by kernel_rfl) (by rfl) (fun K hK => ?_)
  simp only [List.getElem_toArray, List.getElem_cons_zero, List.getElem_cons_succ]
  go_simp
  first | (go_at_call 68; refine Calls.mono (HSE.out _) ?_; rintro e u2 ⟨rfl, hu2⟩; have HB2 : Hid (Below W0.heap.size W0 u2) := below_next (Below.refl _ _).drew hu2; have HC2 : Hid (Chg F W0 u2) := Chg.of_below HB2.out; clear hu2) | (go_at_call 69; refine Calls.mono (HTX.out _ (below_next HB0.out HB2.out)) ?_; rintro e u3 ⟨v3, he3, ho3, hb3⟩; subst he3; rw [← HX.out] at ho3; obtain ⟨a3, c3, hv3, -, -, -, hrd3, -⟩ := ho3.val; rw [HXL.out] at hv3; subst hv3; have HB3 : Hid (Below W0.heap.size W0 u3) := below_next HB2.out hb3; have HC3 : Hid (Chg F W0 u3) := Chg.of_below HB3.out; have HNP : Hid (∀ q, a3 = some q → q.block ≠ p) := (fun q e => by have h8 := (World.ownsRow.lt ho3 q.block (by rw [e]; rfl)).1; have h7 := HPW.out; have h6 := HB0.out.size; have h5 := HB2.out.size; omega); have HWR : Hid _ := (DLft.start (HD.out.below (below_next HB0.out HB3.out))).write hn s hsl a3 c3 X hrd3 HXL.out HNP.out; clear ho3 hrd3 hb3) | (go_at_call 67; refine Calls.mono HWR.out ?_; rintro e u4 ⟨he4, hl4⟩; rw [← HE4.out] at he4; subst he4; have HL4 : Hid (DLft W0 p (d.write s X) (n + 1) F u4) := DLft.frm HB3.out hl4; have HC4 : Hid (Chg F W0 u4) := HL4.out.chg; clear hl4)
  go_wp2_with fail
  refine hK.out _ _ (by first | exact HD0.out | exact HC4.out | exact HC3.out | exact HC2.out | assumption) ?_
  clear hK K
  intro hHeld2
  clear hHeld
  have hHeld := hHeld2
  clear hHeld2
  try simp only [Act.put, List.setIfInBounds_toArray, List.set_cons_zero, List.set_cons_succ]
  refine run_at (i := 8) rfl (by kernel_rfl) (by rfl) (fun K hK => ?_)
  simp only [List.getElem_toArray, List.getElem_cons_zero, List.getElem_cons_succ]
  go_simp
  first | (go_at_call 68; refine Calls.mono (HSE.out _) ?_; rintro e u2 ⟨rfl, hu2⟩; have HB2 : Hid (Below W0.heap.size W0 u2) := below_next (Below.refl _ _).drew hu2; have HC2 : Hid (Chg F W0 u2) := Chg.of_below HB2.out; clear hu2) | (go_at_call 69; refine Calls.mono (HTX.out _ (below_next HB0.out HB2.out)) ?_; rintro e u3 ⟨v3, he3, ho3, hb3⟩; subst he3; rw [← HX.out] at ho3; obtain ⟨a3, c3, hv3, -, -, -, hrd3, -⟩ := ho3.val; rw [HXL.out] at hv3; subst hv3; have HB3 : Hid (Below W0.heap.size W0 u3) := below_next HB2.out hb3; have HC3 : Hid (Chg F W0 u3) := Chg.of_below HB3.out; have HNP : Hid (∀ q, a3 = some q → q.block ≠ p) := (fun q e => by have h8 := (World.ownsRow.lt ho3 q.block (by rw [e]; rfl)).1; have h7 := HPW.out; have h6 := HB0.out.size; have h5 := HB2.out.size; omega); have HWR : Hid _ := (DLft.start (HD.out.below (below_next HB0.out HB3.out))).write hn s hsl a3 c3 X hrd3 HXL.out HNP.out; clear ho3 hrd3 hb3) | (go_at_call 67; refine Calls.mono HWR.out ?_; rintro e u4 ⟨he4, hl4⟩; rw [← HE4.out] at he4; subst he4; have HL4 : Hid (DLft W0 p (d.write s X) (n + 1) F u4) := DLft.frm HB3.out hl4; have HC4 : Hid (Chg F W0 u4) := HL4.out.chg; clear hl4)
  go_wp2_with fail
  refine hK.out _ _ (by first | exact HD0.out | exact HC4.out | exact HC3.out | exact HC2.out | assumption) ?_
  clear hK K
  intro hHeld2
  clear hHeld
  have hHeld := hHeld2
  clear hHeld2
  try simp only [Act.put, List.setIfInBounds_toArray, List.set_cons_zero, List.set_cons_succ]
  refine run_at (i := 9) rfl (by kernel_rfl) (by rfl) (fun K hK => ?_)
  simp only [List.getElem_toArray, List.getElem_cons_zero, List.getElem_cons_succ]
  go_simp
  first | (go_at_call 68; refine Calls.mono (HSE.out _) ?_; rintro e u2 ⟨rfl, hu2⟩; have HB2 : Hid (Below W0.heap.size W0 u2) := below_next (Below.refl _ _).drew hu2; have HC2 : Hid (Chg F W0 u2) := Chg.of_below HB2.out; clear hu2) | (go_at_call 69; refine Calls.mono (HTX.out _ (below_next HB0.out HB2.out)) ?_; rintro e u3 ⟨v3, he3, ho3, hb3⟩; subst he3; rw [← HX.out] at ho3; obtain ⟨a3, c3, hv3, -, -, -, hrd3, -⟩ := ho3.val; rw [HXL.out] at hv3; subst hv3; have HB3 : Hid (Below W0.heap.size W0 u3) := below_next HB2.out hb3; have HC3 : Hid (Chg F W0 u3) := Chg.of_below HB3.out; have HNP : Hid (∀ q, a3 = some q → q.block ≠ p) := (fun q e => by have h8 := (World.ownsRow.lt ho3 q.block (by rw [e]; rfl)).1; have h7 := HPW.out; have h6 := HB0.out.size; have h5 := HB2.out.size; omega); have HWR : Hid _ := (DLft.start (HD.out.below (below_next HB0.out HB3.out))).write hn s hsl a3 c3 X hrd3 HXL.out HNP.out; clear ho3 hrd3 hb3) | (go_at_call 67; refine Calls.mono HWR.out ?_; rintro e u4 ⟨he4, hl4⟩; rw [← HE4.out] at he4; subst he4; have HL4 : Hid (DLft W0 p (d.write s X) (n + 1) F u4) := DLft.frm HB3.out hl4; have HC4 : Hid (Chg F W0 u4) := HL4.out.chg; clear hl4)
  go_wp2_with fail
  refine hK.out _ _ (by first | exact HD0.out | exact HC4.out | exact HC3.out | exact HC2.out | assumption) ?_
  clear hK K
  intro hHeld2
  clear hHeld
  have hHeld := hHeld2
  clear hHeld2
  try simp only [Act.put, List.setIfInBounds_toArray, List.set_cons_zero, List.set_cons_succ]
  refine take_at (i := 10) 4 (v := ?_) rfl rfl (by kernel_rfl) (by kernel_rfl) (by kernel_rfl) (fun _ _ _ h => h) (by rfl) ?_ hHeld ?_
  rotate_left
  · (intro w hSw; (try dsimp only at hSw); go_simp; try with_reducible rfl)
  simp only [Act.put, List.setIfInBounds_toArray, List.set_cons_zero, List.set_cons_succ]
  refine wpAnyH_done (by kernel_rfl) ?_ _
  go_wp2
  go_ret
  rw [HE5.out, HAC.out]
  exact ⟨rfl, DLft.frm HB0.out HL4.out⟩
end Go.Proofs.YtibepnilhmbpeaaDoor
