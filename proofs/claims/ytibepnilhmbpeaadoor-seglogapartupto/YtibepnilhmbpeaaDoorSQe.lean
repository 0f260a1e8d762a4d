import Derived.Test.YtibepnilhmbpeaaDoorSRa
import Derived.Test.YtibepnilhmbpeaaDoorSPy
namespace Go.Proofs.YtibepnilhmbpeaaDoor
set_option linter.unusedVariables false
set_option linter.unusedSimpArgs false
open Go.RowKit
/-- a label -/
structure Lb where
  n : Nat
  e : Nat
  len : Nat
  i : Nat
def lbRd (xs : List UInt8) : Lb := ⟨hdN xs 4 6, hdN xs 10 6, hdN xs 16 2, hdN xs 18 2⟩
/-- how many bytes of the record the piece has -/
def Lb.w (l : Lb) : Nat := min (l.i * 104 + 104) l.len - l.i * 104
def pcDt (xs : List UInt8) : List UInt8 := (xs.drop 20).take (lbRd xs).w
def pcOk (xs : List UInt8) : Bool := decide ((lbRd xs).i < needS (lbRd xs).len) && (xs == pcT (lbRd xs).n (lbRd xs).e (lbRd xs).len (lbRd xs).i (pcDt xs))
theorem Lb.w_le (l : Lb) : l.w ≤ 104 := by unfold Lb.w; omega
/-- what pieceOf answers -/
structure PcOf (xs : List UInt8) (q o cap : Nat) (w : World) (er : Ending) (w' : World) : Prop where
  ex : ∃ (l : Lb) (a : Option Addr) (m c : Nat), er = .returned (.tuple #[pcV l.n l.e l.len l.i (.slice a m c), .bool (pcOk xs)]) ∧ (pcOk xs = true → l = lbRd xs ∧ a = some ⟨q, o + 20, none⟩ ∧ m = (lbRd xs).w ∧ c = cap - 20)
  bel : Below w.heap.size w w'
theorem pieceOf_t (q o cap : Nat) (xs : List UInt8) (hx : xs.length = 128) (hc : 128 ≤ cap) (hcm : cap ≤ 9223372036854775807) (w : World) (hr : Rd w (some ⟨q, o, none⟩) xs) (ht : TabOk w) :
    Calls Tryd.prog 79 #[.slice (some ⟨q, o, none⟩) 128 cap] w fun er w' => PcOf xs q o cap w er w' := by
  by_cases h : (lbRd xs).i < needS (lbRd xs).len
  · refine Calls.mono (pieceOf_ok q o cap xs _ _ _ _ _ rfl rfl rfl rfl rfl hx hc hcm _ rfl w hr ht h) ?_
    rintro er w' ⟨rfl, hb⟩
    have hin := needS_in _ _ h
    have hw : 20 + min (hdN xs 18 2 * 104 + 104) (hdN xs 16 2) - hdN xs 18 2 * 104 - 20 = (lbRd xs).w := by
      unfold Lb.w
      have h9 : (lbRd xs).i = hdN xs 18 2 := rfl
      have h8 : (lbRd xs).len = hdN xs 16 2 := rfl
      rw [h9, h8] at hin ⊢
      omega
    rw [hw]
    refine ⟨⟨lbRd xs, _, _, _, ?_, fun _ => ⟨rfl, rfl, rfl, rfl⟩⟩, hb⟩
    have e : pcOk xs = (xs == pcT (hdN xs 4 6) (hdN xs 10 6) (hdN xs 16 2) (hdN xs 18 2) ((xs.drop 20).take (lbRd xs).w)) := by
      unfold pcOk
      rw [decide_eq_true h, Bool.true_and]
      rfl
    rw [e]
    rfl
  · refine Calls.mono (pieceOf_no q o cap xs _ _ _ _ _ rfl rfl rfl rfl rfl hx hc hcm w hr ht (Nat.le_of_not_lt h)) ?_
    rintro er w' ⟨rfl, hb⟩
    have e : pcOk xs = false := by unfold pcOk; rw [decide_eq_false h, Bool.false_and]
    exact ⟨⟨⟨0, 0, 0, 0⟩, none, 0, 0, by rw [e], fun h9 => by rw [e] at h9; cases h9⟩, hb⟩
/-- what readPiece answers -/
def pcE (d : Dst) (A Z n : Nat) : Int := if (rdD d (secN A Z n)).torn = true then 40 else if pcOk (rdD d (secN A Z n)).text = true ∧ (lbRd (rdD d (secN A Z n)).text).n = n then 0 else 50
/-- the label and the bytes of the piece that is in the sector of number n -/
def pcL (d : Dst) (A Z n : Nat) : Lb := lbRd (rdD d (secN A Z n)).text
def pcX (d : Dst) (A Z n : Nat) : List UInt8 := pcDt (rdD d (secN A Z n)).text
abbrev pcZ : Value := pcV 0 0 0 0 (.slice none 0 0)
/-- a piece, or an error -/
structure PcRes (E : Int) (l : Lb) (Y : List UInt8) (w : World) (e : Ending) (w' : World) : Prop where
  ok : E = 0 → ∃ a c, e = .returned (.tuple #[pcV l.n l.e l.len l.i (.slice a Y.length c), .int .i64 0]) ∧ Rd w' a Y ∧ (a = none → c = 0) ∧ ∀ q, a = some q → w.heap.size ≤ q.block
  no : E ≠ 0 → e = .returned (.tuple #[pcZ, .int .i64 E])
  bel : Below w.heap.size w w'
abbrev PcOut (d : Dst) (A Z n : Nat) (w : World) (e : Ending) (w' : World) : Prop := PcRes (pcE d A Z n) (pcL d A Z n) (pcX d A Z n) w e w'
theorem set5 {w : World} {g : Nat} {a b c d e x0 x1 x2 x3 x4 : Value} {t : TypeId} (h : w.heap[g]? = some (.cells #[a, b, c, d, e] t (0, 0))) :
    (((((w.setCell ⟨g, 0, none⟩ x0).setCell ⟨g, 1, none⟩ x1).setCell ⟨g, 2, none⟩ x2).setCell ⟨g, 3, none⟩ x3).setCell ⟨g, 4, none⟩ x4).heap[g]? = some (.cells #[x0, x1, x2, x3, x4] t (0, 0)) := by
  have h0 := heap_setCell_same w g 0 _ _ x0 h
  have h1 := heap_setCell_same _ g 1 _ _ x1 h0
  have h2 := heap_setCell_same _ g 2 _ _ x2 h1
  have h3 := heap_setCell_same _ g 3 _ _ x3 h2
  exact heap_setCell_same _ g 4 _ _ x4 h3
theorem grown5 (w : World) (g : Nat) (x0 x1 x2 x3 x4 : Value) : w.grownBy (((((w.setCell ⟨g, 0, none⟩ x0).setCell ⟨g, 1, none⟩ x1).setCell ⟨g, 2, none⟩ x2).setCell ⟨g, 3, none⟩ x3).setCell ⟨g, 4, none⟩ x4) (some g) :=
  (grown4 w g x0 x1 x2 x3).trans' (gset1 _ g 4 x4)
abbrev plC (p A Z : Nat) : Array Value := #[.pointer (some ⟨p, 0, none⟩), .int .i64 (A : Int), .int .i64 (Z : Int)]
abbrev pcC0 : Array Value := #[.int .u64 0, .int .u64 0, .int .i64 0, .int .i64 0, .slice none 0 0]
set_option maxRecDepth 20000 in
set_option maxHeartbeats 3200000 in
theorem readPiece_t {w : World} {p m : Nat} {d : Dst} {F : Nat → Prop} (hd : Dsk w p d m F) (hoff : d.off = false) (A Z n : Nat) (hZ : 3 ≤ Z) (hAZ : A + Z ≤ d.S.length) (hn : n < 18446744073709551616) (ht : TabOk w) :
    Calls Tryd.prog 74 #[plV p A Z, .int .u64 (n : Int)] w fun e w' => PcOut d A Z n w e w' := by
  have hsz := hd.size
  obtain ⟨s, hs⟩ : ∃ s : Nat, s = secN A Z n := ⟨_, rfl⟩
  have hsl : s < d.S.length := by rw [hs]; have := (secN_lt (A := A) (Z := Z) (n := n) hZ).2; omega
  have HSE : Hid (∀ u, Calls Tryd.prog 68 #[plV p A Z, .int .u64 (n : Int)] u fun e w' => e = .returned (.int .i64 (s : Int)) ∧ Below u.heap.size u w') := fun u => by rw [hs]; exact sector_t p A Z n hZ (by omega) (by omega) hn u
  have HRD : Hid (∀ u, Below w.heap.size w u → Calls _ _ _ u _) := fun u hu => (hd.below hu).read hoff s hsl
  have HTX : Hid ((rdD d s).text.length = 128) := hd.rdLen s hsl
  have HT : Hid (TabOk w) := ht
  have HE : Hid (pcE d A Z n = if (rdD d s).torn = true then 40 else if pcOk (rdD d s).text = true ∧ (lbRd (rdD d s).text).n = n then 0 else 50) := by unfold Hid pcE; rw [hs]
  have HL : Hid (pcL d A Z n = lbRd (rdD d s).text ∧ pcX d A Z n = pcDt (rdD d s).text) := by unfold Hid pcL pcX; rw [hs]; exact ⟨rfl, rfl⟩
  clear hd hoff ht hs hsl hsz hAZ
  go_enter Tryd.func74, Tryd.ntmps74
  go_wp2_with fail
  have hb0 : Below w.heap.size w ((w.alloc (.cells (plC p A Z) tPl)).alloc (.cells pcC0 tPc)) := alS (alS (Below.refl _ _) _) _
  have hbx : ((w.alloc (.cells (plC p A Z) tPl)).alloc (.cells pcC0 tPc)).heap[w.heap.size]? = some (.cells (plC p A Z) tPl (0, 0)) := below_blk (alS (Below.refl _ _) _) (heap_alloc_new w _)
  have hbr : ((w.alloc (.cells (plC p A Z) tPl)).alloc (.cells pcC0 tPc)).heap[w.heap.size + 1]? = some (.cells pcC0 tPc (0, 0)) := by
    have h9 := heap_alloc_new (w.alloc (.cells (plC p A Z) tPl)) (.cells pcC0 tPc)
    rw [show (w.alloc (.cells (plC p A Z) tPl)).heap.size = w.heap.size + 1 by simp] at h9
    exact h9
  generalize ((w.alloc (.cells (plC p A Z) tPl)).alloc (.cells pcC0 tPc)) = W0 at *
  have HB0 : Hid (Below w.heap.size w W0) := hb0
  have HC : Hid (∀ u, Below W0.heap.size W0 u → u.heap[w.heap.size]? = some (.cells (plC p A Z) tPl (0, 0))) := fun u hu => below_blk hu hbx
  have HCR : Hid (∀ u, Below W0.heap.size W0 u → u.heap[w.heap.size + 1]? = some (.cells pcC0 tPc (0, 0))) := fun u hu => below_blk hu hbr
  have HD0 : Hid (Below W0.heap.size W0 W0.drew) := (Below.refl _ _).drew
  clear hb0 hbx hbr
  refine wp_region_held_drew (S := (fun u => Below W0.heap.size W0 u)) (by kernel_rfl) (by first | exact HD0.out | exact HB3.out | exact HB2.out | assumption) (fun hHeld => ?_)
  refine take_at (i := 0) 11 (v := ?_) rfl rfl (by kernel_rfl) (by kernel_rfl) (by kernel_rfl) (fun _ _ _ h => h) (by rfl) ?_ hHeld ?_
  rotate_left
  · (intro w hSw; (try dsimp only at hSw); go_simp; try with_reducible rfl)
  simp only [Act.put, List.setIfInBounds_toArray, List.set_cons_zero, List.set_cons_succ]
  refine take_at (i := 1) 12 (v := .pointer (some ⟨p, 0, none⟩)) rfl rfl (by kernel_rfl) (by kernel_rfl) (by kernel_rfl) (fun _ _ _ h => h) (by rfl) ?_ hHeld ?_
  · (intro w hSw; have hc9 := (cellsP3 (HC.out _ hSw)).1; go_simp; try with_reducible rfl)
  simp only [Act.put, List.setIfInBounds_toArray, List.set_cons_zero, List.set_cons_succ]
  refine take_at (i := 2) 13 (v := plV p A Z) rfl rfl (by kernel_rfl) (by kernel_rfl) (by kernel_rfl) (fun _ _ _ h => h) (by rfl) ?_ hHeld ?_
  · (intro w hSw; refine exec_load (by rfl) ?_; exact plLoad (HC.out _ hSw))
  simp only [Act.put, List.setIfInBounds_toArray, List.set_cons_zero, List.set_cons_succ]
  refine take_at (i := 3) 14 (v := ?_) rfl rfl (by kernel_rfl) (by kernel_rfl) (by kernel_rfl) (fun _ _ _ h => h) (by rfl) ?_ hHeld ?_
  rotate_left
  · (intro w hSw; (try dsimp only at hSw); go_simp; try with_reducible rfl)
  simp only [Act.put, List.setIfInBounds_toArray, List.set_cons_zero, List.set_cons_succ]
  refine run_at (i := 4) rfl (by kernel_rfl) (by rfl) (fun K hK => ?_)
  simp only [List.getElem_toArray, List.getElem_cons_zero, List.getElem_cons_succ]
  go_simp
  first | (go_at_call 68; refine Calls.mono (HSE.out _) ?_; rintro e u2 ⟨rfl, hu2⟩; have HB2 : Hid (Below W0.heap.size W0 u2) := below_next HD0.out hu2; clear hu2) | (go_at_call 58; refine Calls.mono (HRD.out _ (below_next HB0.out HB2.out)) ?_; rintro e u3 ⟨v3, he3, hown3, hu3⟩; subst he3; have HB3 : Hid (Below W0.heap.size W0 u3) := below_next HB2.out hu3; have HO3 : Hid (Own u3 u2.heap.size v3 (readB (rdD d s))) := hown3; clear hu3 hown3)
  go_wp2_with fail
  refine hK.out _ _ (by first | exact HD0.out | exact HB3.out | exact HB2.out | assumption) ?_
  clear hK K
  intro hHeld2
  clear hHeld
  have hHeld := hHeld2
  clear hHeld2
  try simp only [Act.put, List.setIfInBounds_toArray, List.set_cons_zero, List.set_cons_succ]
  refine run_at (i := 5) rfl (by kernel_rfl) (by rfl) (fun K hK => ?_)
  simp only [List.getElem_toArray, List.getElem_cons_zero, List.getElem_cons_succ]
  go_simp
  first | (go_at_call 68; refine Calls.mono (HSE.out _) ?_; rintro e u2 ⟨rfl, hu2⟩; have HB2 : Hid (Below W0.heap.size W0 u2) := below_next HD0.out hu2; clear hu2) | (go_at_call 58; refine Calls.mono (HRD.out _ (below_next HB0.out HB2.out)) ?_; rintro e u3 ⟨v3, he3, hown3, hu3⟩; subst he3; have HB3 : Hid (Below W0.heap.size W0 u3) := below_next HB2.out hu3; have HO3 : Hid (Own u3 u2.heap.size v3 (readB (rdD d s))) := hown3; clear hu3 hown3)
  go_wp2_with fail
  refine hK.out _ _ (by first | exact HD0.out | exact HB3.out | exact HB2.out | assumption) ?_
  clear hK K
  intro hHeld2
  clear hHeld
  have hHeld := hHeld2
  clear hHeld2
  try simp only [Act.put, List.setIfInBounds_toArray, List.set_cons_zero, List.set_cons_succ]
  refine take_at (i := 6) 10 (v := ?_) rfl rfl (by kernel_rfl) (by kernel_rfl) (by kernel_rfl) (fun _ _ _ h => h) (by rfl) ?_ hHeld ?_
  rotate_left
  · (intro w hSw; (try dsimp only at hSw); go_simp; try with_reducible rfl)
  simp only [Act.put, List.setIfInBounds_toArray, List.set_cons_zero, List.set_cons_succ]
  refine take_at (i := 7) 17 (v := ?_) rfl rfl (by kernel_rfl) (by kernel_rfl) (by kernel_rfl) (fun _ _ _ h => h) (by rfl) ?_ hHeld ?_
  rotate_left
  · (intro w hSw; (try dsimp only at hSw); go_simp; try with_reducible rfl)
  simp only [Act.put, List.setIfInBounds_toArray, List.set_cons_zero, List.set_cons_succ]
  refine take_at (i := 8) 18 (v := ?_) rfl rfl (by kernel_rfl) (by kernel_rfl) (by kernel_rfl) (fun _ _ _ h => h) (by rfl) ?_ hHeld ?_
  rotate_left
  · (intro w hSw; (try dsimp only at hSw); go_simp; try with_reducible rfl)
  simp only [Act.put, List.setIfInBounds_toArray, List.set_cons_zero, List.set_cons_succ]
  refine take_at (i := 9) 6 (v := ?_) rfl rfl (by kernel_rfl) (by kernel_rfl) (by kernel_rfl) (fun _ _ _ h => h) (by rfl) ?_ hHeld ?_
  rotate_left
  · (intro w hSw; (try dsimp only at hSw); go_simp; try with_reducible rfl)
  simp only [Act.put, List.setIfInBounds_toArray, List.set_cons_zero, List.set_cons_succ]
  refine take_at (i := 10) 7 (v := ?_) rfl rfl (by kernel_rfl) (by kernel_rfl) (by kernel_rfl) (fun _ _ _ h => h) (by rfl) ?_ hHeld ?_
  rotate_left
  · (intro w hSw; (try dsimp only at hSw); go_simp; try with_reducible rfl)
  simp only [Act.put, List.setIfInBounds_toArray, List.set_cons_zero, List.set_cons_succ]
  refine wpAnyH_done (by kernel_rfl) ?_ _
  rcases htn : (rdD d s).torn with _ | _
  · obtain ⟨xs, hxs⟩ : ∃ xs, xs = (rdD d s).text := ⟨_, rfl⟩
    have eE : readE (rdD d s) = 0 := by unfold readE; rw [htn]; rfl
    have eB : readB (rdD d s) = xs := by unfold readB; rw [htn, hxs]; rfl
    rw [eE]
    have hown3 := HO3.out
    rw [eB] at hown3
    have HXL : Hid (xs.length = 128) := by unfold Hid; rw [hxs]; exact HTX.out
    obtain ⟨a3, c3, hv3, hle3, hcm3, -, hrd3, -⟩ := hown3.val
    rw [HXL.out] at hv3 hle3
    subst hv3
    obtain ⟨q3, o3, rfl, -⟩ := hrd3 (by rw [HXL.out]; decide)
    have HRX : Hid (Rd u3 (some ⟨q3, o3, none⟩) xs) := hrd3
    have HQ : Hid (¬ q3 = w.heap.size + 1 ∧ w.heap.size ≤ q3) := by
      have g1 := (World.ownsRow.lt hown3 q3 rfl).1
      have g2 := (Array.getElem?_eq_some_iff.1 (HCR.out W0 (Below.refl _ _))).1
      have g3 := HB2.out.size
      unfold Hid
      omega
    rw [htn, ← hxs] at HE
    rw [← hxs] at HL
    have HPO : Hid _ := pieceOf_t q3 o3 c3 xs HXL.out hle3 (by simp only [maxLen] at hcm3; omega) u3 HRX.out (HT.out.below (below_next HB0.out HB3.out))
    clear hown3 hrd3 htn hxs eE eB HO3 hHeld
    go_wp2_with fail
    refine Calls.mono HPO.out ?_
    rintro er u4 ⟨⟨l, a, mm, c, rfl, hok⟩, hb4⟩
    have HB4 : Hid (Below W0.heap.size W0 u4) := below_next HB3.out hb4
    have HR4 : Hid (Rd u4 (some ⟨q3, o3, none⟩) xs) := Rd.below HRX.out hb4
    have HB5 : Hid (Below W0.heap.size W0 (u4.alloc (.cells #[.int .u64 (l.n : Int), .int .u64 (l.e : Int), .int .i64 (l.len : Int), .int .i64 (l.i : Int), .slice a mm c] tPc))) := below_next HB4.out (alS (Below.refl _ _) _)
    have HCW : Hid _ := HCR.out _ HB5.out
    obtain ⟨r0, r1, r2, r3, r4⟩ := cells5 HCW.out
    have hcold := fun i => frz HCW.out i
    have HBW : Hid (∀ x0 x1 x2 x3 x4, Below w.heap.size w _) := fun x0 x1 x2 x3 x4 => (below_next HB0.out HB5.out).grown (grown5 _ (w.heap.size + 1) x0 x1 x2 x3 x4) (below_next HB0.out HB5.out).size (fun b e => by cases e; omega)
    have HOK : Hid _ := hok
    clear hb4 hok HPO
    rcases hpk : pcOk xs with _ | _
    · have HE2 : Hid (pcE d A Z n = 50) := by unfold Hid; rw [HE.out, hpk]; simp
      clear hpk HOK
      go_wp2_with fail
      obtain ⟨k0, k1, k2, k3, k4⟩ := cells5 (set5 (x0 := .int .u64 0) (x1 := .int .u64 0) (x2 := .int .i64 0) (x3 := .int .i64 0) (x4 := .slice none 0 0) HCW.out)
      refine bodyPost_ret (v := .tuple #[.agg #[.int .u64 0, .int .u64 0, .int .i64 0, .int .i64 0, .slice none 0 0], .int .i64 50]) (by simp [results, Tryd.results74, go_sem, k0, k1, k2, k3, k4]) rfl ?_
      exact ⟨(fun h => absurd h (by rw [HE2.out]; decide)), (fun _ => by rw [HE2.out]; rfl), HBW.out _ _ _ _ _⟩
    · obtain ⟨rfl, rfl, rfl, rfl⟩ := HOK.out hpk
      by_cases hnn : (lbRd xs).n = n
      · have hnb : (((lbRd xs).n : Int) != (n : Int)) = false := by simp; omega
        have HE2 : Hid (pcE d A Z n = 0) := by unfold Hid; rw [HE.out, hpk, hnn]; simp
        have HWL : Hid ((pcX d A Z n).length = (lbRd xs).w) := by
          unfold Hid
          rw [HL.out.2]
          unfold pcDt
          rw [List.length_take, List.length_drop, HXL.out]
          have := (lbRd xs).w_le
          omega
        clear hpk HOK hnn
        go_wp2_with fail
        refine bodyPost_ret (v := .tuple #[.agg #[.int .u64 ((lbRd xs).n : Int), .int .u64 ((lbRd xs).e : Int), .int .i64 ((lbRd xs).len : Int), .int .i64 ((lbRd xs).i : Int), .slice (some ⟨q3, o3 + 20, none⟩) (lbRd xs).w (c3 - 20)], .int .i64 0]) ?_ rfl ?_
        · obtain ⟨k0, k1, k2, k3, k4⟩ := cells5 (set5 (x0 := .int .u64 ((lbRd xs).n : Int)) (x1 := .int .u64 ((lbRd xs).e : Int)) (x2 := .int .i64 ((lbRd xs).len : Int)) (x3 := .int .i64 ((lbRd xs).i : Int)) (x4 := .slice (some ⟨q3, o3 + 20, none⟩) (lbRd xs).w (c3 - 20)) HCW.out)
          simp [results, Tryd.results74, go_sem, k0, k1, k2, k3, k4]
        refine ⟨(fun _ => ⟨some ⟨q3, o3 + 20, none⟩, c3 - 20, ?_, ?_, (fun h => by cases h), (fun q e => by cases e; exact HQ.out.2)⟩), (fun h => absurd HE2.out h), HBW.out _ _ _ _ _⟩
        · rw [HL.out.1, HWL.out]
        · rw [HL.out.2]
          refine Rd.chg ((rd_part HR4.out 20 (lbRd xs).w).below (alS (Below.refl _ _) _)) (Chg.of_grown (F := fun b => b = w.heap.size + 1) (grown5 _ (w.heap.size + 1) _ _ _ _ _) (fun b e => by cases e; rfl)) (fun a e => ?_)
          cases e
          exact HQ.out.1
      · have hnb : (((lbRd xs).n : Int) != (n : Int)) = true := by simp; omega
        have HE2 : Hid (pcE d A Z n = 50) := by unfold Hid; rw [HE.out, hpk]; simp [hnn]
        clear hpk HOK hnn
        go_wp2_with fail
        obtain ⟨k0, k1, k2, k3, k4⟩ := cells5 (set5 (x0 := .int .u64 0) (x1 := .int .u64 0) (x2 := .int .i64 0) (x3 := .int .i64 0) (x4 := .slice none 0 0) HCW.out)
        refine bodyPost_ret (v := .tuple #[.agg #[.int .u64 0, .int .u64 0, .int .i64 0, .int .i64 0, .slice none 0 0], .int .i64 50]) (by simp [results, Tryd.results74, go_sem, k0, k1, k2, k3, k4]) rfl ?_
        exact ⟨(fun h => absurd h (by rw [HE2.out]; decide)), (fun _ => by rw [HE2.out]; rfl), HBW.out _ _ _ _ _⟩
  · have eE : readE (rdD d s) = 40 := by unfold readE; rw [htn]; rfl
    rw [eE]
    obtain ⟨a3, c3, hv3, -⟩ := HO3.out.val
    subst hv3
    have HCW : Hid _ := HCR.out _ HB3.out
    obtain ⟨r0, r1, r2, r3, r4⟩ := cells5 HCW.out
    have hcold := fun i => frz HCW.out i
    have HBW : Hid (∀ x0 x1 x2 x3 x4, Below w.heap.size w _) := fun x0 x1 x2 x3 x4 => (below_next HB0.out HB3.out).grown (grown5 _ (w.heap.size + 1) x0 x1 x2 x3 x4) (below_next HB0.out HB3.out).size (fun b e => by cases e; omega)
    have HE2 : Hid (pcE d A Z n = 40) := by unfold Hid; rw [HE.out, htn]; rfl
    clear htn eE HO3 hHeld
    go_wp2_with fail
    obtain ⟨k0, k1, k2, k3, k4⟩ := cells5 (set5 (x0 := .int .u64 0) (x1 := .int .u64 0) (x2 := .int .i64 0) (x3 := .int .i64 0) (x4 := .slice none 0 0) HCW.out)
    refine bodyPost_ret (v := .tuple #[.agg #[.int .u64 0, .int .u64 0, .int .i64 0, .int .i64 0, .slice none 0 0], .int .i64 40]) (by simp [results, Tryd.results74, go_sem, k0, k1, k2, k3, k4]) rfl ?_
    exact ⟨(fun h => absurd h (by rw [HE2.out]; decide)), (fun _ => by rw [HE2.out]; rfl), HBW.out _ _ _ _ _⟩
end Go.Proofs.YtibepnilhmbpeaaDoor
namespace Go.Proofs.YtibepnilhmbpeaaDoor
set_option linter.unusedVariables false
set_option linter.unusedSimpArgs false
open Go.RowKit
abbrev lbC (q : Lb) : Array Value := #[.int .u64 (q.n : Int), .int .u64 (q.e : Int), .int .i64 (q.len : Int), .int .i64 (q.i : Int)]
/-- what readFront answers -/
def frE (d : Dst) (A Z n lo hi : Nat) : Int := if pcE d A Z n ≠ 0 then pcE d A Z n else if (pcL d A Z n).i ≠ 0 ∨ (pcL d A Z n).e < lo ∨ hi < (pcL d A Z n).e then 50 else 0
theorem Lb.eq_of {l q : Lb} (h : ((l.n : Int) = (q.n : Int) ∧ (l.e : Int) = (q.e : Int)) ∧ (l.len : Int) = (q.len : Int) ∧ (l.i : Int) = (q.i : Int)) : l = q := by
  obtain ⟨a, b, c, e⟩ := l
  obtain ⟨a2, b2, c2, e2⟩ := q
  obtain ⟨⟨h1, h2⟩, h3, h4⟩ := h
  simp only at h1 h2 h3 h4
  obtain rfl : a = a2 := by omega
  obtain rfl : b = b2 := by omega
  obtain rfl : c = c2 := by omega
  obtain rfl : e = e2 := by omega
  rfl
theorem neq_lb (u : World) (x y z v x' y' z' v' : Int) : (binOp .neq tLb (.agg #[.int .u64 x, .int .u64 y, .int .i64 z, .int .i64 v]) (.agg #[.int .u64 x', .int .u64 y', .int .i64 z', .int .i64 v'])).run Tryd.prog u = .ok (.bool (!decide ((x = x' ∧ y = y') ∧ z = z' ∧ v = v'))) u := by
  go_simp
  by_cases h1 : x = x' <;> by_cases h2 : y = y' <;> by_cases h3 : z = z' <;> by_cases h4 : v = v' <;> simp [h1, h2, h3, h4]
set_option maxRecDepth 20000 in
set_option maxHeartbeats 3200000 in
theorem readFront_t {w : World} {p m : Nat} {d : Dst} {F : Nat → Prop} (hd : Dsk w p d m F) (hoff : d.off = false) (A Z : Nat) (n lo hi : Nat) (hZ : 3 ≤ Z) (hAZ : A + Z ≤ d.S.length) (hn : n < 18446744073709551616) (ht : TabOk w) :
    Calls Tryd.prog 60 #[plV p A Z, .int .u64 (n : Int), .int .u64 (lo : Int), .int .u64 (hi : Int)] w fun e w' => PcRes (frE d A Z n lo hi) (pcL d A Z n) (pcX d A Z n) w e w' := by
  obtain ⟨E, hE⟩ : ∃ E, E = pcE d A Z n := ⟨_, rfl⟩
  obtain ⟨l, hl⟩ : ∃ l, l = pcL d A Z n := ⟨_, rfl⟩
  obtain ⟨Y, hY⟩ : ∃ Y, Y = pcX d A Z n := ⟨_, rfl⟩
  obtain ⟨FE, hFE⟩ : ∃ FE, FE = frE d A Z n lo hi := ⟨_, rfl⟩
  have HRP : Hid (∀ u, Below w.heap.size w u → Calls Tryd.prog 74 #[plV p A Z, .int .u64 (n : Int)] u fun e w' => PcRes E l Y u e w') := fun u hu => by rw [hE, hl, hY]; exact readPiece_t (hd.below hu) hoff A Z n hZ hAZ hn (ht.below hu)
  have HFE : Hid (FE = if E ≠ 0 then E else if l.i ≠ 0 ∨ l.e < lo ∨ hi < l.e then 50 else 0) := by unfold Hid; rw [hFE, hE, hl]; rfl
  rw [← hl, ← hY, ← hFE]
  clear hd hoff ht hAZ hE hl hY hFE
  go_enter Tryd.func60, Tryd.ntmps60
  go_wp2_with fail
  have hb0 : Below w.heap.size w ((w.alloc (.cells (plC p A Z) tPl)).alloc (.cells pcC0 tPc)) := alS (alS (Below.refl _ _) _) _
  have hbr : ((w.alloc (.cells (plC p A Z) tPl)).alloc (.cells pcC0 tPc)).heap[w.heap.size + 1]? = some (.cells pcC0 tPc (0, 0)) := by
    have h9 := heap_alloc_new (w.alloc (.cells (plC p A Z) tPl)) (.cells pcC0 tPc)
    rw [show (w.alloc (.cells (plC p A Z) tPl)).heap.size = w.heap.size + 1 by simp] at h9
    exact h9
  generalize ((w.alloc (.cells (plC p A Z) tPl)).alloc (.cells pcC0 tPc)) = W0 at *
  have HB0 : Hid (Below w.heap.size w W0) := hb0
  have HCR : Hid (∀ u, Below W0.heap.size W0 u → u.heap[w.heap.size + 1]? = some (.cells pcC0 tPc (0, 0))) := fun u hu => below_blk hu hbr
  clear hb0 hbr
  refine Calls.mono (HRP.out _ HB0.out) ?_
  rintro e u1 hpo
  have HB1 : Hid (Below W0.heap.size W0 u1) := hpo.bel
  by_cases hE : E = 0
  · obtain ⟨a, c, he, hrd, hnl, hnw⟩ := hpo.ok hE
    subst hE
    subst he
    have HRY : Hid (Rd u1 a Y) := hrd
    have HNL : Hid (a = none → c = 0) := hnl
    have HNW : Hid (∀ q, a = some q → W0.heap.size ≤ q.block) := hnw
    have HB2 : Hid (Below W0.heap.size W0 (u1.alloc (.cells #[.int .u64 (l.n : Int), .int .u64 (l.e : Int), .int .i64 (l.len : Int), .int .i64 (l.i : Int), .slice a Y.length c] tPc))) := below_next HB1.out (alS (Below.refl _ _) _)
    have HCW : Hid _ := HCR.out _ HB2.out
    obtain ⟨r0, r1, r2, r3, r4⟩ := cells5 HCW.out
    have hcold := fun i => frz HCW.out i
    have HBW : Hid (∀ x0 x1 x2 x3 x4, Below w.heap.size w _) := fun x0 x1 x2 x3 x4 => (below_next HB0.out HB2.out).grown (grown5 _ (w.heap.size + 1) x0 x1 x2 x3 x4) (below_next HB0.out HB2.out).size (fun b e => by cases e; omega)
    clear hpo hrd hnl hnw
    by_cases h1 : l.i = 0
    · have h1b : ((l.i : Int) != 0) = false := by simp; omega
      by_cases h2 : l.e < lo
      · have h2I : (l.e : Int) < (lo : Int) := by omega
        have HE2 : Hid (FE = 50) := by unfold Hid; rw [HFE.out]; simp [h1, h2]
        clear h1 h2
        go_wp2_with fail
        obtain ⟨k0, k1, k2, k3, k4⟩ := cells5 (set5 (x0 := .int .u64 0) (x1 := .int .u64 0) (x2 := .int .i64 0) (x3 := .int .i64 0) (x4 := .slice none 0 0) HCW.out)
        refine bodyPost_ret (v := .tuple #[.agg #[.int .u64 0, .int .u64 0, .int .i64 0, .int .i64 0, .slice none 0 0], .int .i64 50]) (by simp [results, Tryd.results60, go_sem, k0, k1, k2, k3, k4]) rfl ?_
        exact ⟨(fun h => absurd h (by rw [HE2.out]; decide)), (fun _ => by rw [HE2.out]; rfl), HBW.out _ _ _ _ _⟩
      · have h2I : ¬ (l.e : Int) < (lo : Int) := by omega
        by_cases h3 : hi < l.e
        · have h3I : (hi : Int) < (l.e : Int) := by omega
          have HE2 : Hid (FE = 50) := by unfold Hid; rw [HFE.out]; simp [h1, h3]
          clear h1 h2 h3
          go_wp2_with fail
          obtain ⟨k0, k1, k2, k3, k4⟩ := cells5 (set5 (x0 := .int .u64 0) (x1 := .int .u64 0) (x2 := .int .i64 0) (x3 := .int .i64 0) (x4 := .slice none 0 0) HCW.out)
          refine bodyPost_ret (v := .tuple #[.agg #[.int .u64 0, .int .u64 0, .int .i64 0, .int .i64 0, .slice none 0 0], .int .i64 50]) (by simp [results, Tryd.results60, go_sem, k0, k1, k2, k3, k4]) rfl ?_
          exact ⟨(fun h => absurd h (by rw [HE2.out]; decide)), (fun _ => by rw [HE2.out]; rfl), HBW.out _ _ _ _ _⟩
        · have h3I : ¬ (hi : Int) < (l.e : Int) := by omega
          have HE2 : Hid (FE = 0) := by unfold Hid; rw [HFE.out]; simp [h1, h2, h3]
          clear h1 h2 h3
          go_wp2_with fail
          obtain ⟨k0, k1, k2, k3, k4⟩ := cells5 (set5 (x0 := .int .u64 (l.n : Int)) (x1 := .int .u64 (l.e : Int)) (x2 := .int .i64 (l.len : Int)) (x3 := .int .i64 (l.i : Int)) (x4 := .slice a Y.length c) HCW.out)
          refine bodyPost_ret (v := .tuple #[.agg #[.int .u64 (l.n : Int), .int .u64 (l.e : Int), .int .i64 (l.len : Int), .int .i64 (l.i : Int), .slice a Y.length c], .int .i64 0]) (by simp [results, Tryd.results60, go_sem, k0, k1, k2, k3, k4]) rfl ?_
          refine ⟨(fun _ => ⟨a, c, rfl, ?_, HNL.out, (fun q e => Nat.le_trans HB0.out.size (HNW.out q e))⟩), (fun h => absurd HE2.out h), HBW.out _ _ _ _ _⟩
          refine Rd.chg (Rd.below HRY.out (alS (Below.refl _ _) _)) (Chg.of_grown (F := fun b => b = w.heap.size + 1) (grown5 _ (w.heap.size + 1) _ _ _ _ _) (fun b e => by cases e; rfl)) (fun q e => ?_)
          have h9 := HNW.out q e
          have h8 := (Array.getElem?_eq_some_iff.1 (HCR.out W0 (Below.refl _ _))).1
          show ¬ q.block = w.heap.size + 1
          omega
    · have h1b : ((l.i : Int) != 0) = true := by simp; omega
      have HE2 : Hid (FE = 50) := by unfold Hid; rw [HFE.out]; simp [h1]
      clear h1
      go_wp2_with fail
      obtain ⟨k0, k1, k2, k3, k4⟩ := cells5 (set5 (x0 := .int .u64 0) (x1 := .int .u64 0) (x2 := .int .i64 0) (x3 := .int .i64 0) (x4 := .slice none 0 0) HCW.out)
      refine bodyPost_ret (v := .tuple #[.agg #[.int .u64 0, .int .u64 0, .int .i64 0, .int .i64 0, .slice none 0 0], .int .i64 50]) (by simp [results, Tryd.results60, go_sem, k0, k1, k2, k3, k4]) rfl ?_
      exact ⟨(fun h => absurd h (by rw [HE2.out]; decide)), (fun _ => by rw [HE2.out]; rfl), HBW.out _ _ _ _ _⟩
  · have he := hpo.no hE
    subst he
    have hEb : (E != 0) = true := by simpa using hE
    have HB2 : Hid (Below W0.heap.size W0 (u1.alloc (.cells pcC0 tPc))) := below_next HB1.out (alS (Below.refl _ _) _)
    have HCW : Hid _ := HCR.out _ HB2.out
    obtain ⟨r0, r1, r2, r3, r4⟩ := cells5 HCW.out
    have hcold := fun i => frz HCW.out i
    have HBW : Hid (∀ x0 x1 x2 x3 x4, Below w.heap.size w _) := fun x0 x1 x2 x3 x4 => (below_next HB0.out HB2.out).grown (grown5 _ (w.heap.size + 1) x0 x1 x2 x3 x4) (below_next HB0.out HB2.out).size (fun b e => by cases e; omega)
    have HE2 : Hid (FE = E) := by unfold Hid; rw [HFE.out, if_pos hE]
    have HE3 : Hid (E ≠ 0) := hE
    clear hpo hE
    go_wp2_with fail
    obtain ⟨k0, k1, k2, k3, k4⟩ := cells5 (set5 (x0 := .int .u64 0) (x1 := .int .u64 0) (x2 := .int .i64 0) (x3 := .int .i64 0) (x4 := .slice none 0 0) HCW.out)
    refine bodyPost_ret (v := .tuple #[.agg #[.int .u64 0, .int .u64 0, .int .i64 0, .int .i64 0, .slice none 0 0], .int .i64 E]) (by simp [results, Tryd.results60, go_sem, k0, k1, k2, k3, k4]) rfl ?_
    exact ⟨(fun h => absurd h (by rw [HE2.out]; exact HE3.out)), (fun _ => by rw [HE2.out]; rfl), HBW.out _ _ _ _ _⟩
end Go.Proofs.YtibepnilhmbpeaaDoor
namespace Go.Proofs.YtibepnilhmbpeaaDoor
set_option linter.unusedVariables false
set_option linter.unusedSimpArgs false
open Go.RowKit
abbrev Lb.same (l q : Lb) : Prop := (l.n = q.n ∧ l.e = q.e) ∧ l.len = q.len ∧ l.i = q.i
theorem Lb.same_eq {l q : Lb} (h : l.same q) : l = q := Lb.eq_of ⟨⟨by rw [h.1.1], by rw [h.1.2]⟩, by rw [h.2.1], by rw [h.2.2]⟩
/-- what readPart answers -/
def ptE (d : Dst) (A Z : Nat) (q : Lb) : Int := if pcE d A Z q.n ≠ 0 then pcE d A Z q.n else if (pcL d A Z q.n).same q then 0 else 50
set_option maxRecDepth 20000 in
set_option maxHeartbeats 3200000 in
theorem readPart_t {w : World} {p m : Nat} {d : Dst} {F : Nat → Prop} (hd : Dsk w p d m F) (hoff : d.off = false) (A Z : Nat) (q : Lb) (hZ : 3 ≤ Z) (hAZ : A + Z ≤ d.S.length) (hn : q.n < 18446744073709551616) (ht : TabOk w) :
    Calls Tryd.prog 61 #[plV p A Z, lbV q.n q.e q.len q.i] w fun e w' => PcRes (ptE d A Z q) (pcL d A Z q.n) (pcX d A Z q.n) w e w' := by
  obtain ⟨E, hE⟩ : ∃ E, E = pcE d A Z q.n := ⟨_, rfl⟩
  obtain ⟨l, hl⟩ : ∃ l, l = pcL d A Z q.n := ⟨_, rfl⟩
  obtain ⟨Y, hY⟩ : ∃ Y, Y = pcX d A Z q.n := ⟨_, rfl⟩
  obtain ⟨FE, hFE⟩ : ∃ FE, FE = ptE d A Z q := ⟨_, rfl⟩
  have HRP : Hid (∀ u, Below w.heap.size w u → Calls Tryd.prog 74 #[plV p A Z, .int .u64 (q.n : Int)] u fun e w' => PcRes E l Y u e w') := fun u hu => by rw [hE, hl, hY]; exact readPiece_t (hd.below hu) hoff A Z q.n hZ hAZ hn (ht.below hu)
  have HFE : Hid (FE = if E ≠ 0 then E else if l.same q then 0 else 50) := by unfold Hid; rw [hFE, hE, hl]; rfl
  rw [← hl, ← hY, ← hFE]
  clear hd hoff ht hAZ hE hl hY hFE
  go_enter Tryd.func61, Tryd.ntmps61
  go_wp2_with fail
  have hb0 : Below w.heap.size w (((w.alloc (.cells (plC p A Z) tPl)).alloc (.cells (lbC q) tLb)).alloc (.cells pcC0 tPc)) := alS (alS (alS (Below.refl _ _) _) _) _
  have hbr : (((w.alloc (.cells (plC p A Z) tPl)).alloc (.cells (lbC q) tLb)).alloc (.cells pcC0 tPc)).heap[w.heap.size + 2]? = some (.cells pcC0 tPc (0, 0)) := by
    have h9 := heap_alloc_new ((w.alloc (.cells (plC p A Z) tPl)).alloc (.cells (lbC q) tLb)) (.cells pcC0 tPc)
    rw [show ((w.alloc (.cells (plC p A Z) tPl)).alloc (.cells (lbC q) tLb)).heap.size = w.heap.size + 2 by simp] at h9
    exact h9
  have hbl : (((w.alloc (.cells (plC p A Z) tPl)).alloc (.cells (lbC q) tLb)).alloc (.cells pcC0 tPc)).heap[w.heap.size + 1]? = some (.cells (lbC q) tLb (0, 0)) := by
    have h9 := heap_alloc_new (w.alloc (.cells (plC p A Z) tPl)) (.cells (lbC q) tLb)
    rw [show (w.alloc (.cells (plC p A Z) tPl)).heap.size = w.heap.size + 1 by simp] at h9
    exact below_blk (alS (Below.refl _ _) _) h9
  generalize (((w.alloc (.cells (plC p A Z) tPl)).alloc (.cells (lbC q) tLb)).alloc (.cells pcC0 tPc)) = W0 at *
  have HB0 : Hid (Below w.heap.size w W0) := hb0
  have HCR : Hid (∀ u, Below W0.heap.size W0 u → u.heap[w.heap.size + 2]? = some (.cells pcC0 tPc (0, 0))) := fun u hu => below_blk hu hbr
  have HCL : Hid (∀ u, Below W0.heap.size W0 u → u.heap[w.heap.size + 1]? = some (.cells (lbC q) tLb (0, 0))) := fun u hu => below_blk hu hbl
  clear hb0 hbr hbl
  refine Calls.mono (HRP.out _ HB0.out) ?_
  rintro e u1 hpo
  have HB1 : Hid (Below W0.heap.size W0 u1) := hpo.bel
  by_cases hE : E = 0
  · obtain ⟨a, c, he, hrd, hnl, hnw⟩ := hpo.ok hE
    subst hE
    subst he
    have HRY : Hid (Rd u1 a Y) := hrd
    have HNL : Hid (a = none → c = 0) := hnl
    have HNW : Hid (∀ q, a = some q → W0.heap.size ≤ q.block) := hnw
    have HB2 : Hid (Below W0.heap.size W0 (u1.alloc (.cells #[.int .u64 (l.n : Int), .int .u64 (l.e : Int), .int .i64 (l.len : Int), .int .i64 (l.i : Int), .slice a Y.length c] tPc))) := below_next HB1.out (alS (Below.refl _ _) _)
    have HCW : Hid _ := HCR.out _ HB2.out
    obtain ⟨r0, r1, r2, r3, r4⟩ := cells5 HCW.out
    have hcold := fun i => frz HCW.out i
    have HBW : Hid (∀ x0 x1 x2 x3 x4, Below w.heap.size w _) := fun x0 x1 x2 x3 x4 => (below_next HB0.out HB2.out).grown (grown5 _ (w.heap.size + 2) x0 x1 x2 x3 x4) (below_next HB0.out HB2.out).size (fun b e => by cases e; omega)
    obtain ⟨y0, y1, y2, y3⟩ := cells4 (HCL.out _ HB2.out)
    clear hpo hrd hnl hnw
    by_cases h1 : l.same q
    · have hnb : ∀ u, (binOp .neq tLb (lbV l.n l.e l.len l.i) (lbV q.n q.e q.len q.i)).run Tryd.prog u = .ok (.bool false) u := fun u => by rw [neq_lb, Lb.same_eq h1]; simp
      have HE2 : Hid (FE = 0) := by unfold Hid; rw [HFE.out, if_neg (fun h => h rfl), if_pos h1]
      clear h1
      go_wp2_with fail
      obtain ⟨k0, k1, k2, k3, k4⟩ := cells5 (set5 (x0 := .int .u64 (l.n : Int)) (x1 := .int .u64 (l.e : Int)) (x2 := .int .i64 (l.len : Int)) (x3 := .int .i64 (l.i : Int)) (x4 := .slice a Y.length c) HCW.out)
      refine bodyPost_ret (v := .tuple #[.agg #[.int .u64 (l.n : Int), .int .u64 (l.e : Int), .int .i64 (l.len : Int), .int .i64 (l.i : Int), .slice a Y.length c], .int .i64 0]) (by simp [results, Tryd.results61, go_sem, k0, k1, k2, k3, k4]) rfl ?_
      refine ⟨(fun _ => ⟨a, c, rfl, ?_, HNL.out, (fun q e => Nat.le_trans HB0.out.size (HNW.out q e))⟩), (fun h => absurd HE2.out h), HBW.out _ _ _ _ _⟩
      refine Rd.chg (Rd.below HRY.out (alS (Below.refl _ _) _)) (Chg.of_grown (F := fun b => b = w.heap.size + 2) (grown5 _ (w.heap.size + 2) _ _ _ _ _) (fun b e => by cases e; rfl)) (fun q e => ?_)
      have h9 := HNW.out q e
      have h8 := (Array.getElem?_eq_some_iff.1 (HCR.out W0 (Below.refl _ _))).1
      show ¬ q.block = w.heap.size + 2
      omega
    · have hnb : ∀ u, (binOp .neq tLb (lbV l.n l.e l.len l.i) (lbV q.n q.e q.len q.i)).run Tryd.prog u = .ok (.bool true) u := fun u => by rw [neq_lb, decide_eq_false (fun h => h1 (by rw [Lb.eq_of h]; exact ⟨⟨rfl, rfl⟩, rfl, rfl⟩))]; rfl
      have HE2 : Hid (FE = 50) := by unfold Hid; rw [HFE.out, if_neg (fun h => h rfl), if_neg h1]
      clear h1
      go_wp2_with fail
      obtain ⟨k0, k1, k2, k3, k4⟩ := cells5 (set5 (x0 := .int .u64 0) (x1 := .int .u64 0) (x2 := .int .i64 0) (x3 := .int .i64 0) (x4 := .slice none 0 0) HCW.out)
      refine bodyPost_ret (v := .tuple #[.agg #[.int .u64 0, .int .u64 0, .int .i64 0, .int .i64 0, .slice none 0 0], .int .i64 50]) (by simp [results, Tryd.results61, go_sem, k0, k1, k2, k3, k4]) rfl ?_
      exact ⟨(fun h => absurd h (by rw [HE2.out]; decide)), (fun _ => by rw [HE2.out]; rfl), HBW.out _ _ _ _ _⟩
  · have he := hpo.no hE
    subst he
    have hEb : (E != 0) = true := by simpa using hE
    have HB2 : Hid (Below W0.heap.size W0 (u1.alloc (.cells pcC0 tPc))) := below_next HB1.out (alS (Below.refl _ _) _)
    have HCW : Hid _ := HCR.out _ HB2.out
    obtain ⟨r0, r1, r2, r3, r4⟩ := cells5 HCW.out
    have hcold := fun i => frz HCW.out i
    have HBW : Hid (∀ x0 x1 x2 x3 x4, Below w.heap.size w _) := fun x0 x1 x2 x3 x4 => (below_next HB0.out HB2.out).grown (grown5 _ (w.heap.size + 2) x0 x1 x2 x3 x4) (below_next HB0.out HB2.out).size (fun b e => by cases e; omega)
    have HE2 : Hid (FE = E) := by unfold Hid; rw [HFE.out, if_pos hE]
    have HE3 : Hid (E ≠ 0) := hE
    clear hpo hE
    go_wp2_with fail
    obtain ⟨k0, k1, k2, k3, k4⟩ := cells5 (set5 (x0 := .int .u64 0) (x1 := .int .u64 0) (x2 := .int .i64 0) (x3 := .int .i64 0) (x4 := .slice none 0 0) HCW.out)
    refine bodyPost_ret (v := .tuple #[.agg #[.int .u64 0, .int .u64 0, .int .i64 0, .int .i64 0, .slice none 0 0], .int .i64 E]) (by simp [results, Tryd.results61, go_sem, k0, k1, k2, k3, k4]) rfl ?_
    exact ⟨(fun h => absurd h (by rw [HE2.out]; exact HE3.out)), (fun _ => by rw [HE2.out]; rfl), HBW.out _ _ _ _ _⟩
end Go.Proofs.YtibepnilhmbpeaaDoor
