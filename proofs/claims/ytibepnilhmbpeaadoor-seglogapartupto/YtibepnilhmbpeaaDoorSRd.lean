import Derived.Test.YtibepnilhmbpeaaDoorSRa
namespace Go.Proofs.YtibepnilhmbpeaaDoor
set_option linter.unusedVariables false
set_option linter.unusedSimpArgs false
open Go.RowKit
theorem hdLoad {u : World} {g : Nat} {h : Hd} {fr : Nat × Nat} (hh : u.heap[g]? = some (.cells h.c tHd fr)) : (Instr.loadAt tHd (.pointer (some ⟨g, 0, none⟩))).run Tryd.prog u = .ok h.v u := by
  refine run_loadAt_mid u _ _ _ [.int .u64 (h.g : Int), .int .u64 (h.e : Int), .int .u64 (h.f : Int), .int .u64 (h.l : Int)] _ (fun q v hv => ?_) Tryd.underlying55 rfl infoHd
  rw [Nat.zero_add, cell_of_row _ _ _ _ _ _ hh]
  simpa using hv
/-- all of a head's numbers can be laid -/
structure Hd.ok (h : Hd) : Prop where
  g : h.g < 18446744073709551616
  e : h.e < 18446744073709551616
  f : h.f < 18446744073709551616
  l : h.l < 18446744073709551616
def hdO (A Z : Nat) (h : Hd) : List Wop := [.w (A + h.g % 2) (h.text Z), .f]
set_option maxRecDepth 20000 in
set_option maxHeartbeats 3200000 in
theorem writeHead_t {w : World} {p n : Nat} {d : Dst} {F : Nat → Prop} (hd : Dsk w p d n F) (A Z : Nat) (h : Hd) (hk : h.ok) (hZ : 3 ≤ Z) (hAZ : A + Z ≤ d.S.length) (hn : n + 1 < 1099511627776) (ht : TabOk w) :
    Calls Tryd.prog 57 #[plV p A Z, h.v] w fun e w' => e = .returned (.int .i64 (opE (runO d (hdO A Z h)).2)) ∧ DLft w p (runO d (hdO A Z h)).1 (n + 1) F w' := by
  have hsz := hd.size
  obtain ⟨sl, hsl⟩ : ∃ sl, sl = h.g % 2 := ⟨_, rfl⟩
  obtain ⟨s, hs⟩ : ∃ s, s = A + sl := ⟨_, rfl⟩
  have hsw : IntKind.i64.wrap ((A : Int) + (sl : Int)) = (s : Int) := by rw [IntKind.wrap_i64]; omega
  obtain ⟨X, hX⟩ : ∃ X, X = h.text Z := ⟨_, rfl⟩
  have HXL : Hid (X.length = 128) := by unfold Hid; rw [hX]; exact headT_len _ _ _ _ _
  have HSL : Hid (∀ u, Calls Tryd.prog 55 #[h.v] u fun er w' => er = .returned (.int .i64 (sl : Int)) ∧ Below u.heap.size u w') := fun u => by rw [hsl]; exact slot_t h.g h.e h.f h.l hk.g u
  have HTX : Hid (∀ u, TabOk u → Calls _ _ _ u _) := fun u hu => headText_t h.g h.e h.f h.l Z hk.g hk.e hk.f hk.l (by omega) u hu
  have HX : Hid (X = headT h.g h.e h.f h.l Z) := hX
  have HO : Hid (runO d (hdO A Z h) = if d.can = true then (if (d.write s X).can = true then ((d.write s X).flush, true) else ((d.write s X).begun, false)) else (d.begun, false)) := by
    unfold Hid hdO
    rw [← hsl, ← hs, ← hX]
    rfl
  have HD : Hid (Dsk w p d n F) := hd
  have HT : Hid (TabOk w) := ht
  have hsl2 : s < d.S.length := by omega
  obtain ⟨E4, hE4⟩ : ∃ E4 : Int, E4 = if d.can then 0 else 5 := ⟨_, rfl⟩
  have HE4 : Hid (E4 = if d.can then 0 else 5) := hE4
  clear hE4
  clear hd ht hX hsl hs hk
  go_enter Tryd.func57, Tryd.ntmps57
  go_wp2_with fail
  have hb0 : Below w.heap.size w ((w.alloc (.cells #[.pointer (some ⟨p, 0, none⟩), .int .i64 (A : Int), .int .i64 (Z : Int)] tPl)).alloc (.cells h.c tHd)) := alS (alS (Below.refl _ _) _) _
  have hbx : ((w.alloc (.cells #[.pointer (some ⟨p, 0, none⟩), .int .i64 (A : Int), .int .i64 (Z : Int)] tPl)).alloc (.cells h.c tHd)).heap[w.heap.size]? = some (.cells #[.pointer (some ⟨p, 0, none⟩), .int .i64 (A : Int), .int .i64 (Z : Int)] tPl (0, 0)) := below_blk (alS (Below.refl _ _) _) (heap_alloc_new w _)
  have hbh : ((w.alloc (.cells #[.pointer (some ⟨p, 0, none⟩), .int .i64 (A : Int), .int .i64 (Z : Int)] tPl)).alloc (.cells h.c tHd)).heap[w.heap.size + 1]? = some (.cells h.c tHd (0, 0)) := by
    have h9 := heap_alloc_new (w.alloc (.cells #[.pointer (some ⟨p, 0, none⟩), .int .i64 (A : Int), .int .i64 (Z : Int)] tPl)) (.cells h.c tHd)
    rw [show (w.alloc (.cells #[.pointer (some ⟨p, 0, none⟩), .int .i64 (A : Int), .int .i64 (Z : Int)] tPl)).heap.size = w.heap.size + 1 by simp] at h9
    exact h9
  generalize ((w.alloc (.cells #[.pointer (some ⟨p, 0, none⟩), .int .i64 (A : Int), .int .i64 (Z : Int)] tPl)).alloc (.cells h.c tHd)) = W0 at *
  have HB0 : Hid (Below w.heap.size w W0) := hb0
  have HLT : Hid (∀ b, F b → b < w.heap.size) := HD.out.lt
  have HC : Hid (∀ u, Chg F W0 u → u.heap[w.heap.size]? = some (.cells #[.pointer (some ⟨p, 0, none⟩), .int .i64 (A : Int), .int .i64 (Z : Int)] tPl (0, 0)) ∧ u.heap[w.heap.size + 1]? = some (.cells h.c tHd (0, 0))) := fun u hu => ⟨(hu.block _ (Array.getElem?_eq_some_iff.1 hbx).1 (fun h => by have := HLT.out _ h; omega)).trans hbx, (hu.block _ (Array.getElem?_eq_some_iff.1 hbh).1 (fun h => by have := HLT.out _ h; omega)).trans hbh⟩
  have HPW : Hid (p < w.heap.size) := HD.out.lt p HD.out.inF
  have HD0 : Hid (Chg F W0 W0.drew) := Chg.of_below (Below.refl _ _).drew
  clear hb0 hbx hbh
  refine wp_region_held_drew (S := (fun u => Chg F W0 u)) (by kernel_rfl) (by first | exact HD0.out | exact HC4.out | exact HC3.out | exact HC2.out | assumption) (fun hHeld => ?_)
  refine take_at (i := 0) 6 (v := ?_) rfl rfl (by kernel_rfl) (by kernel_rfl) (by kernel_rfl) (fun _ _ _ h => h) (by rfl) ?_ hHeld ?_
  rotate_left
  · (intro w hSw; (try dsimp only at hSw); go_simp; try with_reducible rfl)
  simp only [Act.put, List.setIfInBounds_toArray, List.set_cons_zero, List.set_cons_succ]
  refine take_at (i := 1) 7 (v := .pointer (some ⟨p, 0, none⟩)) rfl rfl (by kernel_rfl) (by kernel_rfl) (by kernel_rfl) (fun _ _ _ h => h) (by rfl) ?_ hHeld ?_
  · (intro w hSw; have hc9 := (cellsP3 (HC.out _ hSw).1).1; go_simp; try with_reducible rfl)
  simp only [Act.put, List.setIfInBounds_toArray, List.set_cons_zero, List.set_cons_succ]
  refine take_at (i := 2) 8 (v := ?_) rfl rfl (by kernel_rfl) (by kernel_rfl) (by kernel_rfl) (fun _ _ _ h => h) (by rfl) ?_ hHeld ?_
  rotate_left
  · (intro w hSw; (try dsimp only at hSw); go_simp; try with_reducible rfl)
  simp only [Act.put, List.setIfInBounds_toArray, List.set_cons_zero, List.set_cons_succ]
  refine take_at (i := 3) 9 (v := .int .i64 (A : Int)) rfl rfl (by kernel_rfl) (by kernel_rfl) (by kernel_rfl) (fun _ _ _ h => h) (by rfl) ?_ hHeld ?_
  · (intro w hSw; have hc9 := (cellsP3 (HC.out _ hSw).1).2.1; go_simp; try with_reducible rfl)
  simp only [Act.put, List.setIfInBounds_toArray, List.set_cons_zero, List.set_cons_succ]
  refine take_at (i := 4) 10 (v := h.v) rfl rfl (by kernel_rfl) (by kernel_rfl) (by kernel_rfl) (fun _ _ _ h => h) (by rfl) ?_ hHeld ?_
  · (intro w hSw; refine exec_load (by rfl) ?_; exact hdLoad (HC.out _ hSw).2)
  simp only [Act.put, List.setIfInBounds_toArray, List.set_cons_zero, List.set_cons_succ]
  refine take_at (i := 7) 13 (v := h.v) rfl rfl (by kernel_rfl) (by kernel_rfl) (by kernel_rfl) (fun _ _ _ h => h) (by rfl) ?_ hHeld ?_
  · (intro w hSw; refine exec_load (by rfl) ?_; exact hdLoad (HC.out _ hSw).2)
  simp only [Act.put, List.setIfInBounds_toArray, List.set_cons_zero, List.set_cons_succ]
  refine take_at (i := 8) 14 (v := ?_) rfl rfl (by kernel_rfl) (by kernel_rfl) (by kernel_rfl) (fun _ _ _ h => h) (by rfl) ?_ hHeld ?_
  rotate_left
  · (intro w hSw; (try dsimp only at hSw); go_simp; try with_reducible rfl)
  simp only [Act.put, List.setIfInBounds_toArray, List.set_cons_zero, List.set_cons_succ]
  refine take_at (i := 9) 15 (v := .int .i64 (Z : Int)) rfl rfl (by kernel_rfl) (by kernel_rfl) (by kernel_rfl) (fun _ _ _ h => h) (by rfl) ?_ hHeld ?_
  · (intro w hSw; have hc9 := (cellsP3 (HC.out _ hSw).1).2.2; go_simp; try with_reducible rfl)
  simp only [Act.put, List.setIfInBounds_toArray, List.set_cons_zero, List.set_cons_succ]
  refine run_at (i := 5) rfl (by kernel_rfl) (by rfl) (fun K hK => ?_)
  simp only [List.getElem_toArray, List.getElem_cons_zero, List.getElem_cons_succ]
  go_simp
  first | (go_at_call 55; refine Calls.mono (HSL.out _) ?_; rintro e u2 ⟨rfl, hu2⟩; have HB2 : Hid (Below W0.heap.size W0 u2) := below_next (Below.refl _ _).drew hu2; have HC2 : Hid (Chg F W0 u2) := Chg.of_below HB2.out; clear hu2) | (go_at_call 70; refine Calls.mono (HTX.out _ (HT.out.below (below_next HB0.out HB2.out))) ?_; rintro e u3 ⟨v3, he3, ho3, hb3⟩; subst he3; rw [← HX.out] at ho3; obtain ⟨a3, c3, hv3, -, -, -, hrd3, -⟩ := ho3.val; rw [HXL.out] at hv3; subst hv3; have HB3 : Hid (Below W0.heap.size W0 u3) := below_next HB2.out hb3; have HC3 : Hid (Chg F W0 u3) := Chg.of_below HB3.out; have HNP : Hid (∀ q, a3 = some q → q.block ≠ p) := (fun q e => by have h8 := (World.ownsRow.lt ho3 q.block (by rw [e]; rfl)).1; have h7 := HPW.out; have h6 := HB0.out.size; have h5 := HB2.out.size; omega); have HWR : Hid _ := (DLft.start (HD.out.below (below_next HB0.out HB3.out))).write (by omega) s hsl2 a3 c3 X hrd3 HXL.out HNP.out; clear ho3 hrd3 hb3) | (go_at_call 67; refine Calls.mono HWR.out ?_; rintro e u4 ⟨he4, hl4⟩; rw [← HE4.out] at he4; subst he4; have HL4 : Hid (DLft W0 p (d.write s X) (n + 1) F u4) := DLft.frm HB3.out hl4; have HC4 : Hid (Chg F W0 u4) := HL4.out.chg; clear hl4)
  go_wp2_with fail
  refine hK.out _ _ (by first | exact HD0.out | exact HC4.out | exact HC3.out | exact HC2.out | assumption) ?_
  clear hK K
  intro hHeld2
  clear hHeld
  have hHeld := hHeld2
  clear hHeld2
  try simp only [Act.put, List.setIfInBounds_toArray, List.set_cons_zero, List.set_cons_succ]
  refine take_at (i := 6) 12 (v := ?_) rfl rfl (by kernel_rfl) (by kernel_rfl) (by kernel_rfl) (fun _ _ _ h => h) (by rfl) ?_ hHeld ?_
  rotate_left
  · (intro w hSw; (try dsimp only at hSw); go_simp; try with_reducible rfl)
  simp only [Act.put, List.setIfInBounds_toArray, List.set_cons_zero, List.set_cons_succ]
  refine run_at (i := 10) rfl (by kernel_rfl) (by rfl) (fun K hK => ?_)
  simp only [List.getElem_toArray, List.getElem_cons_zero, List.getElem_cons_succ]
  go_simp
  first | (go_at_call 55; refine Calls.mono (HSL.out _) ?_; rintro e u2 ⟨rfl, hu2⟩; have HB2 : Hid (Below W0.heap.size W0 u2) := below_next (Below.refl _ _).drew hu2; have HC2 : Hid (Chg F W0 u2) := Chg.of_below HB2.out; clear hu2) | (go_at_call 70; refine Calls.mono (HTX.out _ (HT.out.below (below_next HB0.out HB2.out))) ?_; rintro e u3 ⟨v3, he3, ho3, hb3⟩; subst he3; rw [← HX.out] at ho3; obtain ⟨a3, c3, hv3, -, -, -, hrd3, -⟩ := ho3.val; rw [HXL.out] at hv3; subst hv3; have HB3 : Hid (Below W0.heap.size W0 u3) := below_next HB2.out hb3; have HC3 : Hid (Chg F W0 u3) := Chg.of_below HB3.out; have HNP : Hid (∀ q, a3 = some q → q.block ≠ p) := (fun q e => by have h8 := (World.ownsRow.lt ho3 q.block (by rw [e]; rfl)).1; have h7 := HPW.out; have h6 := HB0.out.size; have h5 := HB2.out.size; omega); have HWR : Hid _ := (DLft.start (HD.out.below (below_next HB0.out HB3.out))).write (by omega) s hsl2 a3 c3 X hrd3 HXL.out HNP.out; clear ho3 hrd3 hb3) | (go_at_call 67; refine Calls.mono HWR.out ?_; rintro e u4 ⟨he4, hl4⟩; rw [← HE4.out] at he4; subst he4; have HL4 : Hid (DLft W0 p (d.write s X) (n + 1) F u4) := DLft.frm HB3.out hl4; have HC4 : Hid (Chg F W0 u4) := HL4.out.chg; clear hl4)
  go_wp2_with fail
  refine hK.out _ _ (by first | exact HD0.out | exact HC4.out | exact HC3.out | exact HC2.out | assumption) ?_
  clear hK K
  intro hHeld2
  clear hHeld
  have hHeld := hHeld2
  clear hHeld2
  try simp only [Act.put, List.setIfInBounds_toArray, List.set_cons_zero, List.set_cons_succ]
  refine run_at (i := 11) rfl (by kernel_rfl) (by rfl) (fun K hK => ?_)
  simp only [List.getElem_toArray, List.getElem_cons_zero, List.getElem_cons_succ]
  go_simp
  first | (go_at_call 55; refine Calls.mono (HSL.out _) ?_; rintro e u2 ⟨rfl, hu2⟩; have HB2 : Hid (Below W0.heap.size W0 u2) := below_next (Below.refl _ _).drew hu2; have HC2 : Hid (Chg F W0 u2) := Chg.of_below HB2.out; clear hu2) | (go_at_call 70; refine Calls.mono (HTX.out _ (HT.out.below (below_next HB0.out HB2.out))) ?_; rintro e u3 ⟨v3, he3, ho3, hb3⟩; subst he3; rw [← HX.out] at ho3; obtain ⟨a3, c3, hv3, -, -, -, hrd3, -⟩ := ho3.val; rw [HXL.out] at hv3; subst hv3; have HB3 : Hid (Below W0.heap.size W0 u3) := below_next HB2.out hb3; have HC3 : Hid (Chg F W0 u3) := Chg.of_below HB3.out; have HNP : Hid (∀ q, a3 = some q → q.block ≠ p) := (fun q e => by have h8 := (World.ownsRow.lt ho3 q.block (by rw [e]; rfl)).1; have h7 := HPW.out; have h6 := HB0.out.size; have h5 := HB2.out.size; omega); have HWR : Hid _ := (DLft.start (HD.out.below (below_next HB0.out HB3.out))).write (by omega) s hsl2 a3 c3 X hrd3 HXL.out HNP.out; clear ho3 hrd3 hb3) | (go_at_call 67; refine Calls.mono HWR.out ?_; rintro e u4 ⟨he4, hl4⟩; rw [← HE4.out] at he4; subst he4; have HL4 : Hid (DLft W0 p (d.write s X) (n + 1) F u4) := DLft.frm HB3.out hl4; have HC4 : Hid (Chg F W0 u4) := HL4.out.chg; clear hl4)
  go_wp2_with fail
  refine hK.out _ _ (by first | exact HD0.out | exact HC4.out | exact HC3.out | exact HC2.out | assumption) ?_
  clear hK K
  intro hHeld2
  clear hHeld
  have hHeld := hHeld2
  clear hHeld2
  try simp only [Act.put, List.setIfInBounds_toArray, List.set_cons_zero, List.set_cons_succ]
  refine take_at (i := 12) 5 (v := ?_) rfl rfl (by kernel_rfl) (by kernel_rfl) (by kernel_rfl) (fun _ _ _ h => h) (by rfl) ?_ hHeld ?_
  rotate_left
  · (intro w hSw; (try dsimp only at hSw); go_simp; try with_reducible rfl)
  simp only [Act.put, List.setIfInBounds_toArray, List.set_cons_zero, List.set_cons_succ]
  refine wpAnyH_done (by kernel_rfl) ?_ _
  obtain ⟨hbx, -⟩ := HC.out _ HC4.out
  obtain ⟨b0, b1, b2⟩ := cellsP3 hbx
  rcases hc : d.can with _ | _
  · obtain rfl : E4 = 5 := by rw [HE4.out, hc]; rfl
    have HR : Hid (runO d (hdO A Z h) = (d.write s X, false)) := by
      unfold Hid
      rw [HO.out, hc, if_neg (by simp), ← act_no hc (.w s X)]
      rfl
    clear hc hbx
    go_wp2
    go_ret
    rw [HR.out]
    exact ⟨rfl, DLft.frm HB0.out HL4.out⟩
  · obtain rfl : E4 = 0 := by rw [HE4.out, hc]; rfl
    have HFL : Hid _ := HL4.out.flush
    rcases hc2 : (d.write s X).can with _ | _
    · have HR : Hid (runO d (hdO A Z h) = ((d.write s X).flush, false)) := by
        unfold Hid
        rw [HO.out, hc, if_pos rfl, hc2, if_neg (by simp), ← act_no hc2 .f]
        rfl
      rw [hc2] at HFL
      clear hc hc2 hbx
      go_wp2_with (go_at_call 20; refine Calls.mono HFL.out ?_; rintro e w3 ⟨rfl, h3⟩; have HL3 : Hid _ := h3; clear h3)
      go_ret
      rw [HR.out]
      exact ⟨rfl, DLft.frm HB0.out HL3.out⟩
    · have HR : Hid (runO d (hdO A Z h) = ((d.write s X).flush, true)) := by
        unfold Hid
        rw [HO.out, hc, if_pos rfl, hc2, if_pos rfl]
      rw [hc2] at HFL
      clear hc hc2 hbx
      go_wp2_with (go_at_call 20; refine Calls.mono HFL.out ?_; rintro e w3 ⟨rfl, h3⟩; have HL3 : Hid _ := h3; clear h3)
      go_ret
      rw [HR.out]
      exact ⟨rfl, DLft.frm HB0.out HL3.out⟩
/-- what placeOn answers -/
def plE (d : Dst) (A Z : Int) : Int := if Z ≤ 2 ∨ A < 0 ∨ (d.S.length : Int) - A < Z then 1 else if d.off = true then 5 else 0
abbrev plZ : Value := .agg #[.pointer none, .int .i64 0, .int .i64 0]
theorem set3 {w : World} {g : Nat} {a b c x0 x1 x2 : Value} {t : TypeId} (h : w.heap[g]? = some (.cells #[a, b, c] t (0, 0))) :
    (((w.setCell ⟨g, 0, none⟩ x0).setCell ⟨g, 1, none⟩ x1).setCell ⟨g, 2, none⟩ x2).heap[g]? = some (.cells #[x0, x1, x2] t (0, 0)) := by
  have h0 := heap_setCell_same w g 0 _ _ x0 h
  have h1 := heap_setCell_same _ g 1 _ _ x1 h0
  exact heap_setCell_same _ g 2 _ _ x2 h1
structure PlOut (d : Dst) (p : Nat) (A Z : Int) (w : World) (e : Ending) (w' : World) : Prop where
  ok : plE d A Z = 0 → e = .returned (.tuple #[.agg #[.pointer (some ⟨p, 0, none⟩), .int .i64 A, .int .i64 Z], .int .i64 0])
  no : plE d A Z ≠ 0 → e = .returned (.tuple #[plZ, .int .i64 (plE d A Z)])
  bel : Below w.heap.size w w'
theorem plLen {d : Dst} {A Z : Int} (h : plE d A Z = 0) : 3 ≤ Z ∧ 0 ≤ A ∧ A + Z ≤ (d.S.length : Int) ∧ d.off = false := by
  unfold plE at h
  split at h
  · cases h
  · split at h
    · cases h
    · rename_i h1 h2
      exact ⟨by omega, by omega, by omega, by simpa using h2⟩
set_option maxRecDepth 20000 in
set_option maxHeartbeats 1600000 in
theorem placeOn_t {w : World} {p n : Nat} {d : Dst} {F : Nat → Prop} (hd : Dsk w p d n F) (A Z : Int) (hA : -9223372036854775808 ≤ A ∧ A ≤ 9223372036854775807) :
    Calls Tryd.prog 37 #[.pointer (some ⟨p, 0, none⟩), .int .i64 A, .int .i64 Z] w fun e w' => PlOut d p A Z w e w' := by
  have hsz := hd.size
  have HSC : Hid (∀ u, Below w.heap.size w u → Calls _ _ _ u _) := fun u hu => (hd.below hu).sectors
  have HDN : Hid (∀ u, Below w.heap.size w u → Calls _ _ _ u _) := fun u hu => (hd.below hu).down
  obtain ⟨L, hL⟩ : ∃ L : Nat, L = d.S.length := ⟨_, rfl⟩
  rw [← hL] at HSC hsz
  have HW : Hid (Below w.heap.size w (w.alloc (.cells #[.pointer none, .int .i64 0, .int .i64 0] tPl))) := alS (Below.refl _ _) _
  have HLL : Hid (L = d.S.length) := hL
  clear hd hL
  by_cases h1 : Z ≤ 2
  · have hoff : d.off = d.off := rfl
    have HPE : Hid (plE d A Z = 1) := by unfold Hid plE; rw [← HLL.out]; rw [if_pos (.inl h1)]
    go_enter Tryd.func37, Tryd.ntmps37
    go_wp2_with (first | (go_at_call 54; refine Calls.mono (HSC.out _ HW.out) ?_; rintro e w1 ⟨rfl, hq⟩; have hq := hq.symm; subst hq) | (go_at_call 34; refine Calls.mono (HDN.out _ HW.out) ?_; rintro e w1 ⟨rfl, hq⟩; have hq := hq.symm; subst hq; rw [hoff]))
    obtain ⟨k0, k1, k2⟩ := cellsP3 (heap_alloc_new w (.cells #[.pointer none, .int .i64 0, .int .i64 0] tPl))
    obtain ⟨j0, j1, j2⟩ := cellsP3 (set3 (x0 := .pointer none) (x1 := .int .i64 0) (x2 := .int .i64 0) (heap_alloc_new w (.cells #[.pointer none, .int .i64 0, .int .i64 0] tPl)))
    refine bodyPost_ret (v := .tuple #[.agg #[.pointer none, .int .i64 0, .int .i64 0], .int .i64 1]) (by first | (simp [results, Tryd.results37, go_sem, k0, k1, k2]; done) | (simp [results, Tryd.results37, go_sem, j0, j1, j2]; done)) rfl ?_
    exact ⟨(fun h => by first | rfl | exact absurd h (by rw [HPE.out]; decide)), (fun h => by first | exact absurd HPE.out h | rw [HPE.out]), by first | exact alS (Below.refl _ _) _ | exact HW.out.grown ((gset1 _ _ _ _).trans' ((gset1 _ _ _ _).trans' (gset1 _ _ _ _))) HW.out.size (fun b e => by cases e; exact Nat.le_refl _)⟩
  by_cases h2 : A < 0
  · have hoff : d.off = d.off := rfl
    have HPE : Hid (plE d A Z = 1) := by unfold Hid plE; rw [← HLL.out]; rw [if_pos (.inr (.inl h2))]
    go_enter Tryd.func37, Tryd.ntmps37
    go_wp2_with (first | (go_at_call 54; refine Calls.mono (HSC.out _ HW.out) ?_; rintro e w1 ⟨rfl, hq⟩; have hq := hq.symm; subst hq) | (go_at_call 34; refine Calls.mono (HDN.out _ HW.out) ?_; rintro e w1 ⟨rfl, hq⟩; have hq := hq.symm; subst hq; rw [hoff]))
    obtain ⟨k0, k1, k2⟩ := cellsP3 (heap_alloc_new w (.cells #[.pointer none, .int .i64 0, .int .i64 0] tPl))
    obtain ⟨j0, j1, j2⟩ := cellsP3 (set3 (x0 := .pointer none) (x1 := .int .i64 0) (x2 := .int .i64 0) (heap_alloc_new w (.cells #[.pointer none, .int .i64 0, .int .i64 0] tPl)))
    refine bodyPost_ret (v := .tuple #[.agg #[.pointer none, .int .i64 0, .int .i64 0], .int .i64 1]) (by first | (simp [results, Tryd.results37, go_sem, k0, k1, k2]; done) | (simp [results, Tryd.results37, go_sem, j0, j1, j2]; done)) rfl ?_
    exact ⟨(fun h => by first | rfl | exact absurd h (by rw [HPE.out]; decide)), (fun h => by first | exact absurd HPE.out h | rw [HPE.out]), by first | exact alS (Below.refl _ _) _ | exact HW.out.grown ((gset1 _ _ _ _).trans' ((gset1 _ _ _ _).trans' (gset1 _ _ _ _))) HW.out.size (fun b e => by cases e; exact Nat.le_refl _)⟩
  have hw : IntKind.i64.wrap ((L : Int) - A) = (L : Int) - A := by rw [IntKind.wrap_i64]; omega
  by_cases h3 : (L : Int) - A < Z
  · have hoff : d.off = d.off := rfl
    have HPE : Hid (plE d A Z = 1) := by unfold Hid plE; rw [← HLL.out]; rw [if_pos (.inr (.inr h3))]
    go_enter Tryd.func37, Tryd.ntmps37
    go_wp2_with (first | (go_at_call 54; refine Calls.mono (HSC.out _ HW.out) ?_; rintro e w1 ⟨rfl, hq⟩; have hq := hq.symm; subst hq) | (go_at_call 34; refine Calls.mono (HDN.out _ HW.out) ?_; rintro e w1 ⟨rfl, hq⟩; have hq := hq.symm; subst hq; rw [hoff]))
    obtain ⟨k0, k1, k2⟩ := cellsP3 (heap_alloc_new w (.cells #[.pointer none, .int .i64 0, .int .i64 0] tPl))
    obtain ⟨j0, j1, j2⟩ := cellsP3 (set3 (x0 := .pointer none) (x1 := .int .i64 0) (x2 := .int .i64 0) (heap_alloc_new w (.cells #[.pointer none, .int .i64 0, .int .i64 0] tPl)))
    refine bodyPost_ret (v := .tuple #[.agg #[.pointer none, .int .i64 0, .int .i64 0], .int .i64 1]) (by first | (simp [results, Tryd.results37, go_sem, k0, k1, k2]; done) | (simp [results, Tryd.results37, go_sem, j0, j1, j2]; done)) rfl ?_
    exact ⟨(fun h => by first | rfl | exact absurd h (by rw [HPE.out]; decide)), (fun h => by first | exact absurd HPE.out h | rw [HPE.out]), by first | exact alS (Below.refl _ _) _ | exact HW.out.grown ((gset1 _ _ _ _).trans' ((gset1 _ _ _ _).trans' (gset1 _ _ _ _))) HW.out.size (fun b e => by cases e; exact Nat.le_refl _)⟩
  rcases hoff : d.off with _ | _
  · have hx : True := trivial
    have HPE : Hid (plE d A Z = 0) := by unfold Hid plE; rw [← HLL.out]; rw [if_neg (by omega), hoff]; rfl
    go_enter Tryd.func37, Tryd.ntmps37
    go_wp2_with (first | (go_at_call 54; refine Calls.mono (HSC.out _ HW.out) ?_; rintro e w1 ⟨rfl, hq⟩; have hq := hq.symm; subst hq) | (go_at_call 34; refine Calls.mono (HDN.out _ HW.out) ?_; rintro e w1 ⟨rfl, hq⟩; have hq := hq.symm; subst hq; rw [hoff]))
    obtain ⟨k0, k1, k2⟩ := cellsP3 (heap_alloc_new w (.cells #[.pointer (some ⟨p, 0, none⟩), .int .i64 A, .int .i64 Z] tPl))
    obtain ⟨j0, j1, j2⟩ := cellsP3 (set3 (x0 := .pointer (some ⟨p, 0, none⟩)) (x1 := .int .i64 A) (x2 := .int .i64 Z) (heap_alloc_new w (.cells #[.pointer none, .int .i64 0, .int .i64 0] tPl)))
    refine bodyPost_ret (v := .tuple #[.agg #[.pointer (some ⟨p, 0, none⟩), .int .i64 A, .int .i64 Z], .int .i64 0]) (by first | (simp [results, Tryd.results37, go_sem, k0, k1, k2]; done) | (simp [results, Tryd.results37, go_sem, j0, j1, j2]; done)) rfl ?_
    exact ⟨(fun h => by first | rfl | exact absurd h (by rw [HPE.out]; decide)), (fun h => by first | exact absurd HPE.out h | rw [HPE.out]), by first | exact alS (Below.refl _ _) _ | exact HW.out.grown ((gset1 _ _ _ _).trans' ((gset1 _ _ _ _).trans' (gset1 _ _ _ _))) HW.out.size (fun b e => by cases e; exact Nat.le_refl _)⟩
  · have hx : True := trivial
    have HPE : Hid (plE d A Z = 5) := by unfold Hid plE; rw [← HLL.out]; rw [if_neg (by omega), hoff]; rfl
    go_enter Tryd.func37, Tryd.ntmps37
    go_wp2_with (first | (go_at_call 54; refine Calls.mono (HSC.out _ HW.out) ?_; rintro e w1 ⟨rfl, hq⟩; have hq := hq.symm; subst hq) | (go_at_call 34; refine Calls.mono (HDN.out _ HW.out) ?_; rintro e w1 ⟨rfl, hq⟩; have hq := hq.symm; subst hq; rw [hoff]))
    obtain ⟨k0, k1, k2⟩ := cellsP3 (heap_alloc_new w (.cells #[.pointer none, .int .i64 0, .int .i64 0] tPl))
    obtain ⟨j0, j1, j2⟩ := cellsP3 (set3 (x0 := .pointer none) (x1 := .int .i64 0) (x2 := .int .i64 0) (heap_alloc_new w (.cells #[.pointer none, .int .i64 0, .int .i64 0] tPl)))
    refine bodyPost_ret (v := .tuple #[.agg #[.pointer none, .int .i64 0, .int .i64 0], .int .i64 5]) (by first | (simp [results, Tryd.results37, go_sem, k0, k1, k2]; done) | (simp [results, Tryd.results37, go_sem, j0, j1, j2]; done)) rfl ?_
    exact ⟨(fun h => by first | rfl | exact absurd h (by rw [HPE.out]; decide)), (fun h => by first | exact absurd HPE.out h | rw [HPE.out]), by first | exact alS (Below.refl _ _) _ | exact HW.out.grown ((gset1 _ _ _ _).trans' ((gset1 _ _ _ _).trans' (gset1 _ _ _ _))) HW.out.size (fun b e => by cases e; exact Nat.le_refl _)⟩
end Go.Proofs.YtibepnilhmbpeaaDoor
namespace Go.Proofs.YtibepnilhmbpeaaDoor
set_option linter.unusedVariables false
set_option linter.unusedSimpArgs false
open Go.RowKit
theorem DLft.join {W w w' : World} {p n n' : Nat} {d d' : Dst} {F F' : Nat → Prop} (h : DLft W p d n F w) (hF : ∀ b, F' b → F b ∨ W.heap.size ≤ b) (k : DLft w p d' n' F' w') : DLft W p d' n' F w' := by
  obtain ⟨F2, h3, h4⟩ := k.ex
  refine ⟨⟨F2, h3, fun b hb => ?_⟩, h.chg.trans k.chg hF⟩
  rcases h4 b hb with h5 | h5
  · exact hF b h5
  · exact .inr (Nat.le_trans h.chg.size h5)
section
variable {W w : World} {p n : Nat} {d : Dst} {F : Nat → Prop}
theorem DLft.wipe (h : DLft W p d n F w) (A Z f t : Nat) (hft : f ≤ t) (ht : A + t ≤ d.S.length) (hn : n + (t - f) < 1099511627776) :
    Calls Tryd.prog 56 #[plV p A Z, .int .i64 (f : Int), .int .i64 (t : Int)] w fun e w' => e = .returned (.int .i64 (opE (runO d (wipL A f (t - f) ++ [.f])).2)) ∧ DLft W p (runO d (wipL A f (t - f) ++ [.f])).1 (n + (t - f)) F w' := by
  obtain ⟨F', h1, h2⟩ := h.ex
  refine Calls.mono (wipe_t h1 A Z f t hft ht hn) ?_
  rintro e w' ⟨rfl, h3⟩
  exact ⟨rfl, h.join h2 h3⟩
theorem DLft.head (h : DLft W p d n F w) (A Z : Nat) (k : Hd) (hk : k.ok) (hZ : 3 ≤ Z) (hAZ : A + Z ≤ d.S.length) (hn : n + 1 < 1099511627776) (ht : TabOk W) (hF : ¬ F 0) :
    Calls Tryd.prog 57 #[plV p A Z, k.v] w fun e w' => e = .returned (.int .i64 (opE (runO d (hdO A Z k)).2)) ∧ DLft W p (runO d (hdO A Z k)).1 (n + 1) F w' := by
  obtain ⟨F', h1, h2⟩ := h.ex
  refine Calls.mono (writeHead_t h1 A Z k hk hZ hAZ hn (ht.chg h.chg hF)) ?_
  rintro e w' ⟨rfl, h3⟩
  exact ⟨rfl, h.join h2 h3⟩
end
/-- the slot that is wiped last -/
def lastS (h : Hd) : Nat := if 0 < h.g then h.g % 2 else 1
theorem lastS_le (h : Hd) : lastS h ≤ 1 := by unfold lastS; split <;> omega
def fmA (A s : Nat) : List Wop := wipL A s 1 ++ [.f]
def fmB (A Z : Nat) : List Wop := wipL A 2 (Z - 2) ++ [.f]
/-- what Format does -/
def fmtL (d : Dst) (A Z : Nat) : List Wop := fmA A (1 - lastS (cntH d A Z)) ++ fmA A (lastS (cntH d A Z)) ++ fmB A Z ++ hdO A Z ⟨1, 0, 0, 0⟩
def fmK (A s : Nat) : Nat → List Wop
  | 0 => []
  | 1 => fmA A (1 - s)
  | _ => fmA A (1 - s) ++ fmA A s
theorem fmK_snoc (A s k : Nat) (hk : k < 2) : fmK A s (k + 1) = fmK A s k ++ fmA A (if k = 0 then 1 - s else s) := by
  have : k = 0 ∨ k = 1 := by omega
  rcases this with rfl | rfl
  · rfl
  · rfl
theorem run_fail {d : Dst} {a : List Wop} (h : (runO d a).2 = false) (b : List Wop) : runO d (a ++ b) = ((runO d a).1, false) := by
  rw [runO_app, h]
  rfl
theorem run_next {d : Dst} {a : List Wop} (h : (runO d a).2 = true) (b : List Wop) : runO d (a ++ b) = runO (runO d a).1 b := by
  rw [runO_app, if_pos h]
theorem opE_no {b : Bool} (h : b = false) : opE b = 5 := by rw [h]; rfl
theorem opE_ok {b : Bool} (h : b = true) : opE b = 0 := by rw [h]; rfl
set_option maxRecDepth 20000 in
theorem idxF0 (a b : Int) (w : World) : (Instr.index 109 (.agg #[.int .i64 a, .int .i64 b]) (.int .i64 0)).run Tryd.prog w = .ok (.int .i64 a) w := by
  first | rfl | kernel_rfl
set_option maxRecDepth 20000 in
set_option maxRecDepth 20000 in
theorem idxF1 (a b : Int) (w : World) : (Instr.index 109 (.agg #[.int .i64 a, .int .i64 b]) (.int .i64 1)).run Tryd.prog w = .ok (.int .i64 b) w := by
  first | rfl | kernel_rfl
set_option maxRecDepth 20000 in
theorem cntK_ok (d : Dst) (A Z : Nat) : ∀ k, (cntK d A Z k).ok
  | 0 => ⟨(by show 0 < 18446744073709551616; decide), (by show 0 < 18446744073709551616; decide), (by show 0 < 18446744073709551616; decide), (by show 0 < 18446744073709551616; decide)⟩
  | k + 1 => by
    unfold cntK
    split
    · exact ⟨hdN_lt _ _ _ (by decide), hdN_lt _ _ _ (by decide), hdN_lt _ _ _ (by decide), hdN_lt _ _ _ (by decide)⟩
    · exact cntK_ok d A Z k
set_option maxRecDepth 20000 in
set_option maxHeartbeats 3200000 in
theorem format_t {w : World} {p n : Nat} {d : Dst} {F : Nat → Prop} (hd : Dsk w p d n F) (hoff : d.off = false) (A Z : Nat) (hZ : 3 ≤ Z) (hAZ : A + Z ≤ d.S.length) (hn : n + Z + 1 < 1099511627776) (ht : TabOk w) (hF : ¬ F 0) :
    Calls Tryd.prog 38 #[plV p A Z] w fun e w' => e = .returned (.int .i64 (opE (runO d (fmtL d A Z)).2)) ∧ DLft w p (runO d (fmtL d A Z)).1 (n + Z + 1) F w' := by
  have hsz := hd.size
  obtain ⟨h, hh⟩ : ∃ h, h = cntH d A Z := ⟨_, rfl⟩
  obtain ⟨s, hs⟩ : ∃ s, s = lastS h := ⟨_, rfl⟩
  have hs1 : s ≤ 1 := by rw [hs]; exact lastS_le h
  have HCO : Hid (∀ u, Below w.heap.size w u → Calls Tryd.prog 39 #[plV p A Z] u fun e w' => e = .returned h.v ∧ Below u.heap.size u w') := fun u hu => by rw [hh]; exact counting_t (hd.below hu) hoff A Z hZ hAZ (ht.below hu)
  have HFM : Hid (fmtL d A Z = fmK A s 2 ++ fmB A Z ++ hdO A Z ⟨1, 0, 0, 0⟩) := by unfold Hid fmtL; rw [← hh, ← hs]; rfl
  have HD : Hid (Dsk w p d n F) := hd
  have HT : Hid (TabOk w) := ht
  have HFS : Hid (¬ F 0) := hF
  have HSL : Hid (0 < h.g → ∀ u, Calls Tryd.prog 55 #[h.v] u fun er w' => er = .returned (.int .i64 (s : Int)) ∧ Below u.heap.size u w') := fun hg u => by
    have hg2 : h.g < 18446744073709551616 := by rw [hh]; exact (cntK_ok d A Z 2).g
    rw [hs]
    unfold lastS
    rw [if_pos hg]
    exact slot_t h.g h.e h.f h.l hg2 u
  have HS0 : Hid (¬ 0 < h.g → s = 1) := fun hg => by rw [hs]; unfold lastS; rw [if_neg hg]
  clear hd ht hF hh hs
  go_enter Tryd.func38, Tryd.ntmps38
  go_wp2_with fail
  have hb0 : Below w.heap.size w (w.alloc (.cells #[.pointer (some ⟨p, 0, none⟩), .int .i64 (A : Int), .int .i64 (Z : Int)] tPl)) := alS (Below.refl _ _) _
  have hbx : (w.alloc (.cells #[.pointer (some ⟨p, 0, none⟩), .int .i64 (A : Int), .int .i64 (Z : Int)] tPl)).heap[w.heap.size]? = some (.cells #[.pointer (some ⟨p, 0, none⟩), .int .i64 (A : Int), .int .i64 (Z : Int)] tPl (0, 0)) := heap_alloc_new w _
  generalize (w.alloc (.cells #[.pointer (some ⟨p, 0, none⟩), .int .i64 (A : Int), .int .i64 (Z : Int)] tPl)) = W0 at *
  refine Calls.mono (HCO.out _ hb0) ?_
  rintro e u1 ⟨rfl, hb1⟩
  have HBU : Hid (Below w.heap.size w (u1.alloc (.cells h.c tHd))) := below_next (below_next hb0 hb1) (alS (Below.refl _ _) _)
  have HXU : Hid ((u1.alloc (.cells h.c tHd)).heap[w.heap.size]? = some (.cells #[.pointer (some ⟨p, 0, none⟩), .int .i64 (A : Int), .int .i64 (Z : Int)] tPl (0, 0))) := below_blk (below_next hb1 (alS (Below.refl _ _) _)) hbx
  clear hb0 hbx hb1
  by_cases hg : 0 < h.g
  · have hgI : (0 : Int) < (h.g : Int) := by omega
    have hsub : IntKind.i64.wrap (1 - (s : Int)) = ((1 - s : Nat) : Int) := by rw [IntKind.wrap_i64]; omega
    have HSG : Hid _ := HSL.out hg
    clear hg
    go_upto_region 5 with (go_at_call 55; refine Calls.mono (HSG.out _) ?_; rintro e W1 ⟨he, hbW⟩; subst he; have HB1 : Hid (Below w.heap.size w W1) := below_next HBU.out hbW; have HX1 : Hid (W1.heap[w.heap.size]? = some (.cells #[.pointer (some ⟨p, 0, none⟩), .int .i64 (A : Int), .int .i64 (Z : Int)] tPl (0, 0))) := below_blk hbW HXU.out; clear hbW)
    have HLT : Hid (∀ b, F b → b < w.heap.size) := HD.out.lt
    have HC : Hid (∀ u, Chg F W1 u → u.heap[w.heap.size]? = some (.cells #[.pointer (some ⟨p, 0, none⟩), .int .i64 (A : Int), .int .i64 (Z : Int)] tPl (0, 0))) := fun u hu => (hu.block _ (Array.getElem?_eq_some_iff.1 HX1.out).1 (fun h => by have := HLT.out _ h; omega)).trans HX1.out
    have HS1 : Hid (DLft W1 p d n F W1) := DLft.start (HD.out.below HB1.out)
    have HT1 : Hid (TabOk W1) := HT.out.below HB1.out
    go_wp2_with fail
    go_loopw [20] (fun j wr => ∃ k : Nat, k ≤ 2 ∧ j = .int .i64 (k : Int) ∧ Hid ((runO d (fmK A s k)).2 = true) ∧ DLft W1 p (runO d (fmK A s k)).1 (n + k) F wr) (fun j _ => 2 - (intOf j).toNat)
    case atStart => exact ⟨0, by omega, rfl, rfl, HS1.out⟩
    case round =>
      obtain ⟨k, hk, rfl, HOK, hp⟩ := hrel
      have HP : Hid (DLft W1 p (runO d (fmK A s k)).1 (n + k) F wr) := hp
      have hbx := HC.out wr hp.chg
      obtain ⟨b0, b1, b2⟩ := cellsP3 hbx
      clear hp hbx
      by_cases hlt : k < 2
      · have hltI : (k : Int) < 2 := by omega
        have hkw : IntKind.i64.wrap ((k : Int) + 1) = ((k + 1 : Nat) : Int) := by rw [IntKind.wrap_i64]; omega
        obtain ⟨c, hc⟩ : ∃ c, c = if k = 0 then 1 - s else s := ⟨_, rfl⟩
        have hc1 : c ≤ 1 := by rw [hc]; split <;> omega
        have hcw : IntKind.i64.wrap ((c : Int) + 1) = ((c + 1 : Nat) : Int) := by rw [IntKind.wrap_i64]; omega
        have hidx : ∀ u, (Instr.index 109 (.agg #[.int .i64 (((1 - s : Nat) : Int)), .int .i64 ((s : Int))]) (.int .i64 (k : Int))).run Tryd.prog u = .ok (.int .i64 (c : Int)) u := fun u => by
          have h9 : k = 0 ∨ k = 1 := by omega
          rcases h9 with rfl | rfl
          · rw [show ((c : Nat) : Int) = ((1 - s : Nat) : Int) by rw [hc, if_pos rfl]]; exact idxF0 _ _ u
          · rw [show ((c : Nat) : Int) = (s : Int) by rw [hc, if_neg (by decide)]]; exact idxF1 _ _ u
        have HWP : Hid _ := HP.out.wipe A Z c (c + 1) (by omega) (by rw [runO_len]; omega) (by omega)
        rw [show c + 1 - c = 1 by omega] at HWP
        obtain ⟨b, hb⟩ : ∃ b, b = (runO (runO d (fmK A s k)).1 (fmA A c)).2 := ⟨_, rfl⟩
        have hbb : (runO (runO d (fmK A s k)).1 (wipL A c 1 ++ [.f])).2 = b := hb.symm
        rw [hbb] at HWP
        have HSN : Hid (runO d (fmK A s (k + 1)) = runO (runO d (fmK A s k)).1 (fmA A c)) := by unfold Hid; rw [fmK_snoc A s k hlt, ← hc, run_next HOK.out]
        have HBD : Hid (b = (runO (runO d (fmK A s k)).1 (fmA A c)).2) := hb
        clear hc hb hbb
        rcases b with _ | _
        · have HF9 : Hid (runO d (fmtL d A Z) = ((runO d (fmK A s (k + 1))).1, false)) := by
            have h8 : (runO d (fmK A s (k + 1))).2 = false := by rw [HSN.out]; exact HBD.out.symm
            unfold Hid
            rw [HFM.out, List.append_assoc]
            have h9 : k = 0 ∨ k = 1 := by omega
            rcases h9 with rfl | rfl
            · show runO d (fmA A (1 - s) ++ fmA A s ++ _) = _
              rw [List.append_assoc]
              exact run_fail h8 _
            · exact run_fail h8 _
          go_wp2_with (go_at_call 56; refine Calls.mono HWP.out ?_; rintro e w3 ⟨he3, h3⟩; rw [opE_no rfl] at he3; subst he3; have HL3 : Hid _ := h3; clear h3)
          go_ret
          rw [HF9.out]
          refine ⟨rfl, DLft.frm HB1.out (DLft.more ?_ (by omega : n + k + 1 ≤ n + Z + 1) (by omega))⟩
          rw [HSN.out]
          exact HL3.out
        · go_wp2_with (go_at_call 56; refine Calls.mono HWP.out ?_; rintro e w3 ⟨he3, h3⟩; rw [opE_ok rfl] at he3; subst he3; have HL3 : Hid _ := h3; clear h3)
          go_roundw
          case rel => exact ⟨k + 1, by omega, by go_num, by unfold Hid; rw [HSN.out]; exact HBD.out.symm, by rw [HSN.out]; exact HL3.out⟩
          case measure => simp [intOf]; omega
      · obtain rfl : k = 2 := by omega
        have hltI : ¬ ((2 : Nat) : Int) < 2 := by omega
        have HWP : Hid _ := HP.out.wipe A Z 2 Z (by omega) (by rw [runO_len]; omega) (by omega)
        rw [show n + 2 + (Z - 2) = n + Z by omega] at HWP
        obtain ⟨D2, hD2⟩ : ∃ D2, D2 = (runO d (fmK A s 2)).1 := ⟨_, rfl⟩
        rw [← hD2] at HWP
        obtain ⟨b, hb⟩ : ∃ b, b = (runO D2 (fmB A Z)).2 := ⟨_, rfl⟩
        have hbb : (runO D2 (wipL A 2 (Z - 2) ++ [.f])).2 = b := hb.symm
        rw [hbb] at HWP
        have HBD : Hid (b = (runO D2 (fmB A Z)).2) := hb
        have HSN : Hid (runO d (fmK A s 2 ++ fmB A Z) = runO D2 (fmB A Z)) := by unfold Hid; rw [hD2]; exact run_next HOK.out _
        have HLD : Hid (D2.S.length = d.S.length) := by unfold Hid; rw [hD2]; exact runO_len _ _
        clear hb hbb hD2
        rcases b with _ | _
        · have HF9 : Hid (runO d (fmtL d A Z) = ((runO D2 (fmB A Z)).1, false)) := by
            unfold Hid
            rw [HFM.out, run_fail (by rw [HSN.out]; exact HBD.out.symm), HSN.out]
          go_wp2_with (go_at_call 56; refine Calls.mono HWP.out ?_; rintro e w3 ⟨he3, h3⟩; rw [opE_no rfl] at he3; subst he3; have HL3 : Hid _ := h3; clear h3)
          go_ret
          rw [HF9.out]
          exact ⟨rfl, DLft.frm HB1.out (DLft.more HL3.out (by omega) (by omega))⟩
        · have HF9 : Hid (runO d (fmtL d A Z) = runO (runO D2 (fmB A Z)).1 (hdO A Z ⟨1, 0, 0, 0⟩)) := by
            unfold Hid
            rw [HFM.out, run_next (by rw [HSN.out]; exact HBD.out.symm), HSN.out]
          go_wp2_with (first | (have hh := HL3; go_at_call 57; refine Calls.mono HWH.out ?_; rintro e w4 ⟨he4, h4⟩; subst he4; have HL4 : Hid _ := h4; clear h4) | (go_at_call 56; refine Calls.mono HWP.out ?_; rintro e w3 ⟨he3, h3⟩; rw [opE_ok rfl] at he3; subst he3; have HL3 : Hid (DLft W1 p (runO D2 (fmB A Z)).1 (n + Z) F w3) := h3; have HWH : Hid _ := HL3.out.head A Z ⟨1, 0, 0, 0⟩ ⟨by decide, by decide, by decide, by decide⟩ hZ (by rw [runO_len, HLD.out]; exact hAZ) (by omega) HT1.out HFS.out; have hbx3 := HC.out w3 HL3.out.chg; obtain ⟨d0, d1, d2⟩ := cellsP3 hbx3; clear h3 hbx3))
          go_ret
          rw [HF9.out]
          exact ⟨rfl, DLft.frm HB1.out HL4.out⟩
  · have hgI : ¬ (0 : Int) < (h.g : Int) := by omega
    have HSE : Hid (s = 1) := HS0.out hg
    go_upto_region 5 with fail
    have HB1 : Hid _ := HBU.out
    have HX1 : Hid _ := HXU.out
    generalize (u1.alloc (.cells h.c tHd)) = W1 at *
    have HLT : Hid (∀ b, F b → b < w.heap.size) := HD.out.lt
    have HC : Hid (∀ u, Chg F W1 u → u.heap[w.heap.size]? = some (.cells #[.pointer (some ⟨p, 0, none⟩), .int .i64 (A : Int), .int .i64 (Z : Int)] tPl (0, 0))) := fun u hu => (hu.block _ (Array.getElem?_eq_some_iff.1 HX1.out).1 (fun h => by have := HLT.out _ h; omega)).trans HX1.out
    have HS1 : Hid (DLft W1 p d n F W1) := DLft.start (HD.out.below HB1.out)
    have HT1 : Hid (TabOk W1) := HT.out.below HB1.out
    go_wp2_with fail
    go_loopw [20] (fun j wr => ∃ k : Nat, k ≤ 2 ∧ j = .int .i64 (k : Int) ∧ Hid ((runO d (fmK A s k)).2 = true) ∧ DLft W1 p (runO d (fmK A s k)).1 (n + k) F wr) (fun j _ => 2 - (intOf j).toNat)
    case atStart => exact ⟨0, by omega, rfl, rfl, HS1.out⟩
    case round =>
      obtain ⟨k, hk, rfl, HOK, hp⟩ := hrel
      have HP : Hid (DLft W1 p (runO d (fmK A s k)).1 (n + k) F wr) := hp
      have hbx := HC.out wr hp.chg
      obtain ⟨b0, b1, b2⟩ := cellsP3 hbx
      clear hp hbx
      by_cases hlt : k < 2
      · have hltI : (k : Int) < 2 := by omega
        have hkw : IntKind.i64.wrap ((k : Int) + 1) = ((k + 1 : Nat) : Int) := by rw [IntKind.wrap_i64]; omega
        obtain ⟨c, hc⟩ : ∃ c, c = if k = 0 then 1 - s else s := ⟨_, rfl⟩
        have hc1 : c ≤ 1 := by rw [hc]; split <;> omega
        have hcw : IntKind.i64.wrap ((c : Int) + 1) = ((c + 1 : Nat) : Int) := by rw [IntKind.wrap_i64]; omega
        have hidx : ∀ u, (Instr.index 109 (.agg #[.int .i64 ((0 : Int)), .int .i64 ((1 : Int))]) (.int .i64 (k : Int))).run Tryd.prog u = .ok (.int .i64 (c : Int)) u := fun u => by
          have h9 : k = 0 ∨ k = 1 := by omega
          rcases h9 with rfl | rfl
          · rw [show ((c : Nat) : Int) = (0 : Int) by rw [hc, if_pos rfl]; rw [HSE.out]; rfl]; exact idxF0 _ _ u
          · rw [show ((c : Nat) : Int) = (1 : Int) by rw [hc, if_neg (by decide)]; rw [HSE.out]; rfl]; exact idxF1 _ _ u
        have HWP : Hid _ := HP.out.wipe A Z c (c + 1) (by omega) (by rw [runO_len]; omega) (by omega)
        rw [show c + 1 - c = 1 by omega] at HWP
        obtain ⟨b, hb⟩ : ∃ b, b = (runO (runO d (fmK A s k)).1 (fmA A c)).2 := ⟨_, rfl⟩
        have hbb : (runO (runO d (fmK A s k)).1 (wipL A c 1 ++ [.f])).2 = b := hb.symm
        rw [hbb] at HWP
        have HSN : Hid (runO d (fmK A s (k + 1)) = runO (runO d (fmK A s k)).1 (fmA A c)) := by unfold Hid; rw [fmK_snoc A s k hlt, ← hc, run_next HOK.out]
        have HBD : Hid (b = (runO (runO d (fmK A s k)).1 (fmA A c)).2) := hb
        clear hc hb hbb
        rcases b with _ | _
        · have HF9 : Hid (runO d (fmtL d A Z) = ((runO d (fmK A s (k + 1))).1, false)) := by
            have h8 : (runO d (fmK A s (k + 1))).2 = false := by rw [HSN.out]; exact HBD.out.symm
            unfold Hid
            rw [HFM.out, List.append_assoc]
            have h9 : k = 0 ∨ k = 1 := by omega
            rcases h9 with rfl | rfl
            · show runO d (fmA A (1 - s) ++ fmA A s ++ _) = _
              rw [List.append_assoc]
              exact run_fail h8 _
            · exact run_fail h8 _
          go_wp2_with (go_at_call 56; refine Calls.mono HWP.out ?_; rintro e w3 ⟨he3, h3⟩; rw [opE_no rfl] at he3; subst he3; have HL3 : Hid _ := h3; clear h3)
          go_ret
          rw [HF9.out]
          refine ⟨rfl, DLft.frm HB1.out (DLft.more ?_ (by omega : n + k + 1 ≤ n + Z + 1) (by omega))⟩
          rw [HSN.out]
          exact HL3.out
        · go_wp2_with (go_at_call 56; refine Calls.mono HWP.out ?_; rintro e w3 ⟨he3, h3⟩; rw [opE_ok rfl] at he3; subst he3; have HL3 : Hid _ := h3; clear h3)
          go_roundw
          case rel => exact ⟨k + 1, by omega, by go_num, by unfold Hid; rw [HSN.out]; exact HBD.out.symm, by rw [HSN.out]; exact HL3.out⟩
          case measure => simp [intOf]; omega
      · obtain rfl : k = 2 := by omega
        have hltI : ¬ ((2 : Nat) : Int) < 2 := by omega
        have HWP : Hid _ := HP.out.wipe A Z 2 Z (by omega) (by rw [runO_len]; omega) (by omega)
        rw [show n + 2 + (Z - 2) = n + Z by omega] at HWP
        obtain ⟨D2, hD2⟩ : ∃ D2, D2 = (runO d (fmK A s 2)).1 := ⟨_, rfl⟩
        rw [← hD2] at HWP
        obtain ⟨b, hb⟩ : ∃ b, b = (runO D2 (fmB A Z)).2 := ⟨_, rfl⟩
        have hbb : (runO D2 (wipL A 2 (Z - 2) ++ [.f])).2 = b := hb.symm
        rw [hbb] at HWP
        have HBD : Hid (b = (runO D2 (fmB A Z)).2) := hb
        have HSN : Hid (runO d (fmK A s 2 ++ fmB A Z) = runO D2 (fmB A Z)) := by unfold Hid; rw [hD2]; exact run_next HOK.out _
        have HLD : Hid (D2.S.length = d.S.length) := by unfold Hid; rw [hD2]; exact runO_len _ _
        clear hb hbb hD2
        rcases b with _ | _
        · have HF9 : Hid (runO d (fmtL d A Z) = ((runO D2 (fmB A Z)).1, false)) := by
            unfold Hid
            rw [HFM.out, run_fail (by rw [HSN.out]; exact HBD.out.symm), HSN.out]
          go_wp2_with (go_at_call 56; refine Calls.mono HWP.out ?_; rintro e w3 ⟨he3, h3⟩; rw [opE_no rfl] at he3; subst he3; have HL3 : Hid _ := h3; clear h3)
          go_ret
          rw [HF9.out]
          exact ⟨rfl, DLft.frm HB1.out (DLft.more HL3.out (by omega) (by omega))⟩
        · have HF9 : Hid (runO d (fmtL d A Z) = runO (runO D2 (fmB A Z)).1 (hdO A Z ⟨1, 0, 0, 0⟩)) := by
            unfold Hid
            rw [HFM.out, run_next (by rw [HSN.out]; exact HBD.out.symm), HSN.out]
          go_wp2_with (first | (have hh := HL3; go_at_call 57; refine Calls.mono HWH.out ?_; rintro e w4 ⟨he4, h4⟩; subst he4; have HL4 : Hid _ := h4; clear h4) | (go_at_call 56; refine Calls.mono HWP.out ?_; rintro e w3 ⟨he3, h3⟩; rw [opE_ok rfl] at he3; subst he3; have HL3 : Hid (DLft W1 p (runO D2 (fmB A Z)).1 (n + Z) F w3) := h3; have HWH : Hid _ := HL3.out.head A Z ⟨1, 0, 0, 0⟩ ⟨by decide, by decide, by decide, by decide⟩ hZ (by rw [runO_len, HLD.out]; exact hAZ) (by omega) HT1.out HFS.out; have hbx3 := HC.out w3 HL3.out.chg; obtain ⟨d0, d1, d2⟩ := cellsP3 hbx3; clear h3 hbx3))
          go_ret
          rw [HF9.out]
          exact ⟨rfl, DLft.frm HB1.out HL4.out⟩
end Go.Proofs.YtibepnilhmbpeaaDoor
namespace Go.Proofs.YtibepnilhmbpeaaDoor
set_option linter.unusedVariables false
set_option linter.unusedSimpArgs false
open Go.RowKit
/-- what Format answers, and what is on the disk then -/
def fmE (d : Dst) (A Z : Int) : Int := if plE d A Z ≠ 0 then plE d A Z else opE (runO d (fmtL d A.toNat Z.toNat)).2
def fmD (d : Dst) (A Z : Int) : Dst := if plE d A Z ≠ 0 then d else (runO d (fmtL d A.toNat Z.toNat)).1
set_option maxRecDepth 20000 in
set_option maxHeartbeats 1600000 in
theorem Format_t {w : World} {p n : Nat} {d : Dst} {F : Nat → Prop} (hd : Dsk w p d n F) (A Z : Int) (hA : -9223372036854775808 ≤ A ∧ A ≤ 9223372036854775807) (hn : n + 65537 < 1099511627776) (ht : TabOk w) (hF : ¬ F 0) :
    Calls Tryd.prog 17 #[.pointer (some ⟨p, 0, none⟩), .int .i64 A, .int .i64 Z] w fun e w' => e = .returned (.int .i64 (fmE d A Z)) ∧ DLft w p (fmD d A Z) (n + 65537) F w' := by
  have hsz := hd.size
  have HPO : Hid _ := placeOn_t hd A Z hA
  have HD : Hid (Dsk w p d n F) := hd
  have HT : Hid (TabOk w) := ht
  have HFS : Hid (¬ F 0) := hF
  by_cases hE : plE d A Z = 0
  · obtain ⟨h1, h2, h3, h4⟩ := plLen hE
    obtain ⟨a, rfl⟩ : ∃ a : Nat, A = (a : Int) := ⟨A.toNat, by omega⟩
    obtain ⟨z, rfl⟩ : ∃ z : Nat, Z = (z : Int) := ⟨Z.toNat, by omega⟩
    have HFE : Hid (fmE d (a : Int) (z : Int) = opE (runO d (fmtL d a z)).2 ∧ fmD d (a : Int) (z : Int) = (runO d (fmtL d a z)).1) := by
      unfold Hid fmE fmD
      rw [if_neg (fun h => h hE), if_neg (fun h => h hE)]
      exact ⟨rfl, rfl⟩
    have HFO : Hid (∀ u, Below w.heap.size w u → Calls _ _ _ u _) := fun u hu => format_t (hd.below hu) h4 a z (by omega) (by omega) (by omega) (ht.below hu) hF
    have HE : Hid (plE d (a : Int) (z : Int) = 0) := hE
    have HZ : Hid (z ≤ 65536) := by unfold Hid; omega
    clear hd ht hF hE h1 h2 h3 h4
    go_enter Tryd.func17, Tryd.ntmps17
    go_wp2_with fail
    refine Calls.mono HPO.out ?_
    rintro e u1 hpo
    have he := hpo.ok HE.out
    subst he
    have HB1 : Hid (Below w.heap.size w (u1.alloc (.cells #[.pointer (some ⟨p, 0, none⟩), .int .i64 (a : Int), .int .i64 (z : Int)] tPl))) := below_next hpo.bel (alS (Below.refl _ _) _)
    clear hpo
    go_wp2_with (go_at_call 38; refine Calls.mono (HFO.out _ HB1.out) ?_; rintro e w3 ⟨rfl, h3⟩; have HL3 : Hid _ := h3; clear h3)
    go_ret
    rw [HFE.out.1, HFE.out.2]
    exact ⟨rfl, DLft.frm HB1.out (DLft.more HL3.out (by have := HZ.out; omega) (by omega))⟩
  · have HFE : Hid (fmE d A Z = plE d A Z ∧ fmD d A Z = d) := by
      unfold Hid fmE fmD
      rw [if_pos hE, if_pos hE]
      exact ⟨rfl, rfl⟩
    obtain ⟨E, hEd⟩ : ∃ E, E = plE d A Z := ⟨_, rfl⟩
    have HED : Hid (E = plE d A Z) := hEd
    have hEb : (E != 0) = true := by rw [hEd]; simpa using hE
    have HE : Hid (plE d A Z ≠ 0) := hE
    clear hd ht hF hE hEd
    go_enter Tryd.func17, Tryd.ntmps17
    go_wp2_with fail
    refine Calls.mono HPO.out ?_
    rintro e u1 hpo
    have he := hpo.no HE.out
    rw [← HED.out] at he
    subst he
    have HB1 : Hid (Below w.heap.size w (u1.alloc (.cells #[.pointer none, .int .i64 0, .int .i64 0] tPl))) := below_next hpo.bel (alS (Below.refl _ _) _)
    clear hpo
    go_wp2
    go_ret
    rw [HFE.out.1, HFE.out.2, ← HED.out]
    exact ⟨rfl, DLft.more (DLft.below (DLft.start HD.out) HB1.out) (by omega) (by omega)⟩
end Go.Proofs.YtibepnilhmbpeaaDoor
