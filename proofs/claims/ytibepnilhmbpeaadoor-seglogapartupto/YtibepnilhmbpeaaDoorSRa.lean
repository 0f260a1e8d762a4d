import Derived.Test.YtibepnilhmbpeaaDoorSPx
import Derived.Test.YtibepnilhmbpeaaDoorSDk
namespace Go.Proofs.YtibepnilhmbpeaaDoor
set_option linter.unusedVariables false
set_option linter.unusedSimpArgs false
open Go.RowKit
abbrev tPl : TypeId := 53
theorem infoPl : (Tryd.prog.info? tPl).map (·.size) = some 3 := by kernel_rfl
/-- a place as a value -/
abbrev plL (p A Z : Nat) : List Value := [.pointer (some ⟨p, 0, none⟩), .int .i64 (A : Int), .int .i64 (Z : Int)]
abbrev plV (p A Z : Nat) : Value := .agg #[.pointer (some ⟨p, 0, none⟩), .int .i64 (A : Int), .int .i64 (Z : Int)]
theorem cellsP3 {w : World} {g : Nat} {a b c : Value} {t : TypeId} {fr : Nat × Nat} (h : w.heap[g]? = some (.cells #[a, b, c] t fr)) : w.cell? ⟨g, 0, none⟩ = some a ∧ w.cell? ⟨g, 1, none⟩ = some b ∧ w.cell? ⟨g, 2, none⟩ = some c :=
  ⟨by rw [cell_of_row _ _ _ _ _ _ h]; rfl, by rw [cell_of_row _ _ _ _ _ _ h]; rfl, by rw [cell_of_row _ _ _ _ _ _ h]; rfl⟩
theorem plLoad {u : World} {g p A Z : Nat} {fr : Nat × Nat} (h : u.heap[g]? = some (.cells #[.pointer (some ⟨p, 0, none⟩), .int .i64 (A : Int), .int .i64 (Z : Int)] tPl fr)) : (Instr.loadAt tPl (.pointer (some ⟨g, 0, none⟩))).run Tryd.prog u = .ok (plV p A Z) u := by
  refine run_loadAt_mid u _ _ _ (plL p A Z) _ (fun q v hv => ?_) Tryd.underlying53 rfl infoPl
  rw [Nat.zero_add, cell_of_row _ _ _ _ _ _ h]
  simpa using hv
theorem ring_t (p A Z : Nat) (hZ : 2 ≤ Z) (hZ2 : Z ≤ 65536) (w : World) :
    Calls Tryd.prog 32 #[plV p A Z] w fun e w' => e = .returned (.int .u64 ((Z - 2 : Nat) : Int)) ∧ Below w.heap.size w w' := by
  obtain ⟨R, hR⟩ : ∃ R : Nat, R = Z - 2 := ⟨_, rfl⟩
  have h1 : IntKind.i64.wrap ((Z : Int) - 2) = (R : Int) := by rw [IntKind.wrap_i64]; omega
  have h2 : IntKind.u64.wrap (R : Int) = (R : Int) := by rw [IntKind.wrap_u64]; omega
  rw [← hR]
  clear hR
  go_enter Tryd.func32, Tryd.ntmps32
  go_wp2
  go_ret
  exact ⟨rfl, alS (Below.refl _ _) _⟩
/-- the sector of a number -/
def secN (A Z n : Nat) : Nat := A + 2 + n % (Z - 2)
theorem secN_lt {A Z n : Nat} (hZ : 3 ≤ Z) : A + 2 ≤ secN A Z n ∧ secN A Z n < A + Z := by
  unfold secN
  have := Nat.mod_lt n (by omega : 0 < Z - 2)
  omega
set_option maxRecDepth 20000 in
set_option maxHeartbeats 1600000 in
theorem sector_t (p A Z n : Nat) (hZ : 3 ≤ Z) (hZ2 : Z ≤ 65536) (hA : A ≤ 65536) (hn : n < 18446744073709551616) (w : World) :
    Calls Tryd.prog 68 #[plV p A Z, .int .u64 (n : Int)] w fun e w' => e = .returned (.int .i64 (secN A Z n : Int)) ∧ Below w.heap.size w w' := by
  obtain ⟨R, hR⟩ : ∃ R : Nat, R = Z - 2 := ⟨_, rfl⟩
  obtain ⟨q, hq⟩ : ∃ q : Nat, q = n % R := ⟨_, rfl⟩
  have hqR : q < R := by rw [hq]; exact Nat.mod_lt _ (by omega)
  have h1 : Int.tmod (n : Int) (R : Int) = (q : Int) := by rw [Int.tmod_eq_emod_of_nonneg (by omega), hq]; rfl
  have h2 : IntKind.u64.wrap (q : Int) = (q : Int) := by rw [IntKind.wrap_u64]; omega
  have h3 : IntKind.i64.wrap (q : Int) = (q : Int) := by rw [IntKind.wrap_i64]; omega
  obtain ⟨A2, hA2⟩ : ∃ A2 : Nat, A2 = A + 2 := ⟨_, rfl⟩
  have h4 : IntKind.i64.wrap ((A : Int) + 2) = (A2 : Int) := by rw [IntKind.wrap_i64]; omega
  obtain ⟨s, hs⟩ : ∃ s : Nat, s = secN A Z n := ⟨_, rfl⟩
  have h5 : IntKind.i64.wrap ((A2 : Int) + (q : Int)) = (s : Int) := by rw [IntKind.wrap_i64, hs]; unfold secN; rw [← hR, ← hq]; omega
  have hR0 : ((R : Int) == 0) = false := by simp; omega
  have hR1 : ¬ (R : Int) = 0 := by omega
  have hR2 : ¬ R = 0 := by omega
  rw [← hs]
  have HRT : Hid (∀ u, Calls Tryd.prog 32 #[plV p A Z] u fun e w' => e = .returned (.int .u64 (R : Int)) ∧ Below u.heap.size u w') := fun u => by rw [hR]; exact ring_t p A Z (by omega) hZ2 u
  clear hR hq hs hA2
  go_enter Tryd.func68, Tryd.ntmps68
  go_wp2_with fail
  have hb0 : Below w.heap.size w (w.alloc (.cells #[.pointer (some ⟨p, 0, none⟩), .int .i64 (A : Int), .int .i64 (Z : Int)] tPl)) := alS (Below.refl _ _) _
  have hbx : (w.alloc (.cells #[.pointer (some ⟨p, 0, none⟩), .int .i64 (A : Int), .int .i64 (Z : Int)] tPl)).heap[w.heap.size]? = some (.cells #[.pointer (some ⟨p, 0, none⟩), .int .i64 (A : Int), .int .i64 (Z : Int)] tPl (0, 0)) := heap_alloc_new w _
  generalize (w.alloc (.cells #[.pointer (some ⟨p, 0, none⟩), .int .i64 (A : Int), .int .i64 (Z : Int)] tPl)) = W0 at *
  have HB0 : Hid (Below w.heap.size w W0) := hb0
  have HC : Hid (∀ u, Below W0.heap.size W0 u → u.heap[w.heap.size]? = some (.cells #[.pointer (some ⟨p, 0, none⟩), .int .i64 (A : Int), .int .i64 (Z : Int)] tPl (0, 0))) := fun u hu => (hu.block _ (Array.getElem?_eq_some_iff.1 hbx).1).trans hbx
  have HD0 : Hid (Below W0.heap.size W0 W0.drew) := (Below.refl _ _).drew
  clear hb0 hbx
  refine wp_region_held_drew (S := (fun u => Below W0.heap.size W0 u)) (by kernel_rfl) (by first | exact HD0.out | exact HB2.out | assumption) (fun hHeld => ?_)
  refine take_at (i := 0) 5 (v := ?_) rfl rfl (by kernel_rfl) (by kernel_rfl) (by kernel_rfl) (fun _ _ _ h => h) (by rfl) ?_ hHeld ?_
  rotate_left
  · (intro w hSw; (try dsimp only at hSw); go_simp; try with_reducible rfl)
  simp only [Act.put, List.setIfInBounds_toArray, List.set_cons_zero, List.set_cons_succ]
  refine take_at (i := 1) 6 (v := .int .i64 (A : Int)) rfl rfl (by kernel_rfl) (by kernel_rfl) (by kernel_rfl) (fun _ _ _ h => h) (by rfl) ?_ hHeld ?_
  · (intro w hSw; have hc9 := (cellsP3 (HC.out _ hSw)).2.1; go_simp; try with_reducible rfl)
  simp only [Act.put, List.setIfInBounds_toArray, List.set_cons_zero, List.set_cons_succ]
  refine take_at (i := 2) 7 (v := ?_) rfl rfl (by kernel_rfl) (by kernel_rfl) (by kernel_rfl) (fun _ _ _ h => h) (by rfl) ?_ hHeld ?_
  rotate_left
  · (intro w hSw; (try dsimp only at hSw); go_simp; try with_reducible rfl)
  simp only [Act.put, List.setIfInBounds_toArray, List.set_cons_zero, List.set_cons_succ]
  refine take_at (i := 3) 8 (v := ?_) rfl rfl (by kernel_rfl) (by kernel_rfl) (by kernel_rfl) (fun _ _ _ h => h) (by rfl) ?_ hHeld ?_
  rotate_left
  · (intro w hSw; (try dsimp only at hSw); go_simp; try with_reducible rfl)
  simp only [Act.put, List.setIfInBounds_toArray, List.set_cons_zero, List.set_cons_succ]
  refine take_at (i := 4) 9 (v := plV p A Z) rfl rfl (by kernel_rfl) (by kernel_rfl) (by kernel_rfl) (fun _ _ _ h => h) (by rfl) ?_ hHeld ?_
  · (intro w hSw; refine exec_load (by rfl) ?_; exact plLoad (HC.out _ hSw))
  simp only [Act.put, List.setIfInBounds_toArray, List.set_cons_zero, List.set_cons_succ]
  refine run_at (i := 5) rfl (by kernel_rfl) (by rfl) (fun K hK => ?_)
  simp only [List.getElem_toArray, List.getElem_cons_zero, List.getElem_cons_succ]
  go_simp
  (go_at_call 32; refine Calls.mono (HRT.out _) ?_; rintro e u2 ⟨rfl, hu2⟩; have HB2 : Hid (Below W0.heap.size W0 u2) := below_next HD0.out hu2)
  go_wp2_with fail
  refine hK.out _ _ (by first | exact HD0.out | exact HB2.out | assumption) ?_
  clear hK K
  intro hHeld2
  clear hHeld
  have hHeld := hHeld2
  clear hHeld2
  try simp only [Act.put, List.setIfInBounds_toArray, List.set_cons_zero, List.set_cons_succ]
  refine take_at (i := 6) 11 (v := ?_) rfl rfl (by kernel_rfl) (by kernel_rfl) (by kernel_rfl) (fun _ _ _ h => h) (by rfl) ?_ hHeld ?_
  rotate_left
  · (intro w hSw; (try dsimp only at hSw); go_simp; try with_reducible rfl)
  simp only [Act.put, List.setIfInBounds_toArray, List.set_cons_zero, List.set_cons_succ]
  refine take_at (i := 7) 12 (v := ?_) rfl rfl (by kernel_rfl) (by kernel_rfl) (by kernel_rfl) (fun _ _ _ h => h) (by rfl) ?_ hHeld ?_
  rotate_left
  · (intro w hSw; (try dsimp only at hSw); go_simp; try with_reducible rfl)
  simp only [Act.put, List.setIfInBounds_toArray, List.set_cons_zero, List.set_cons_succ]
  refine take_at (i := 8) 13 (v := ?_) rfl rfl (by kernel_rfl) (by kernel_rfl) (by kernel_rfl) (fun _ _ _ h => h) (by rfl) ?_ hHeld ?_
  rotate_left
  · (intro w hSw; (try dsimp only at hSw); go_simp; try with_reducible rfl)
  simp only [Act.put, List.setIfInBounds_toArray, List.set_cons_zero, List.set_cons_succ]
  refine take_at (i := 9) 4 (v := ?_) rfl rfl (by kernel_rfl) (by kernel_rfl) (by kernel_rfl) (fun _ _ _ h => h) (by rfl) ?_ hHeld ?_
  rotate_left
  · (intro w hSw; (try dsimp only at hSw); go_simp; try with_reducible rfl)
  simp only [Act.put, List.setIfInBounds_toArray, List.set_cons_zero, List.set_cons_succ]
  refine wpAnyH_done (by kernel_rfl) ?_ _
  go_wp2
  go_ret
  exact ⟨rfl, below_next HB0.out HB2.out⟩
end Go.Proofs.YtibepnilhmbpeaaDoor
namespace Go.Proofs.YtibepnilhmbpeaaDoor
set_option linter.unusedVariables false
set_option linter.unusedSimpArgs false
open Go.RowKit
/-- a head -/
structure Hd where
  g : Nat
  e : Nat
  f : Nat
  l : Nat
abbrev Hd.v (h : Hd) : Value := hdV h.g h.e h.f h.l
abbrev Hd.c (h : Hd) : Array Value := #[.int .u64 (h.g : Int), .int .u64 (h.e : Int), .int .u64 (h.f : Int), .int .u64 (h.l : Int)]
abbrev Hd.z : Hd := ⟨0, 0, 0, 0⟩
/-- the numbers in a head's text -/
def hdRd (xs : List UInt8) : Hd := ⟨hdN xs 4 6, hdN xs 10 6, hdN xs 16 6, hdN xs 22 6⟩
def Hd.text (h : Hd) (Z : Nat) : List UInt8 := headT h.g h.e h.f h.l Z
def hdOk (xs : List UInt8) (Z : Nat) : Bool := decide (0 < (hdRd xs).g) && (xs == (hdRd xs).text Z)
/-- does the head of a slot come ahead of one of generation o? -/
def slotB (d : Dst) (A Z k o : Nat) : Bool := !(rdD d (A + k)).torn && (hdOk (rdD d (A + k)).text Z && (decide ((hdRd (rdD d (A + k)).text).g % 2 = k) && decide (o < (hdRd (rdD d (A + k)).text).g)))
/-- the head that counts among the first k slots -/
def cntK (d : Dst) (A Z : Nat) : Nat → Hd
  | 0 => Hd.z
  | k + 1 => if slotB d A Z k (cntK d A Z k).g = true then hdRd (rdD d (A + k)).text else cntK d A Z k
theorem cntK_yes {d : Dst} {A Z k : Nat} (h : slotB d A Z k (cntK d A Z k).g = true) : cntK d A Z (k + 1) = hdRd (rdD d (A + k)).text := if_pos h
theorem cntK_no {d : Dst} {A Z k : Nat} (h : slotB d A Z k (cntK d A Z k).g = false) : cntK d A Z (k + 1) = cntK d A Z k := if_neg (by rw [h]; simp)
def cntH (d : Dst) (A Z : Nat) : Hd := cntK d A Z 2
/-- amid counting -/
structure CntI (w : World) (p A Z : Nat) (wr : World) (h : Hd) : Prop where
  box : wr.heap[w.heap.size]? = some (.cells #[.pointer (some ⟨p, 0, none⟩), .int .i64 (A : Int), .int .i64 (Z : Int)] tPl (0, 0))
  res : wr.heap[w.heap.size + 1]? = some (.cells Hd.z.c tHd (0, 0))
  new : wr.heap[w.heap.size + 2]? = some (.cells h.c tHd (0, 0))
  bel : Below w.heap.size w wr
theorem CntI.below {w : World} {p A Z : Nat} {wr u : World} {h : Hd} (hi : CntI w p A Z wr h) (hb : Below wr.heap.size wr u) : CntI w p A Z u h :=
  ⟨below_blk hb hi.box, below_blk hb hi.res, below_blk hb hi.new, below_next hi.bel hb⟩
theorem set4 {w : World} {g : Nat} {a b c d x0 x1 x2 x3 : Value} {t : TypeId} (h : w.heap[g]? = some (.cells #[a, b, c, d] t (0, 0))) :
    ((((w.setCell ⟨g, 0, none⟩ x0).setCell ⟨g, 1, none⟩ x1).setCell ⟨g, 2, none⟩ x2).setCell ⟨g, 3, none⟩ x3).heap[g]? = some (.cells #[x0, x1, x2, x3] t (0, 0)) := by
  have h0 := heap_setCell_same w g 0 _ _ x0 h
  have h1 := heap_setCell_same _ g 1 _ _ x1 h0
  have h2 := heap_setCell_same _ g 2 _ _ x2 h1
  exact heap_setCell_same _ g 3 _ _ x3 h2
theorem grown4 (w : World) (g : Nat) (x0 x1 x2 x3 : Value) : w.grownBy ((((w.setCell ⟨g, 0, none⟩ x0).setCell ⟨g, 1, none⟩ x1).setCell ⟨g, 2, none⟩ x2).setCell ⟨g, 3, none⟩ x3) (some g) :=
  (((gset1 w g 0 x0).trans' (gset1 _ g 1 x1)).trans' (gset1 _ g 2 x2)).trans' (gset1 _ g 3 x3)
theorem CntI.set {w : World} {p A Z : Nat} {wr : World} {h : Hd} (hi : CntI w p A Z wr h) (k : Hd) :
    CntI w p A Z ((((wr.setCell ⟨w.heap.size + 2, 0, none⟩ (.int .u64 (k.g : Int))).setCell ⟨w.heap.size + 2, 1, none⟩ (.int .u64 (k.e : Int))).setCell ⟨w.heap.size + 2, 2, none⟩ (.int .u64 (k.f : Int))).setCell ⟨w.heap.size + 2, 3, none⟩ (.int .u64 (k.l : Int))) k :=
  ⟨grown_blk (grown4 wr _ _ _ _ _) hi.box (by omega), grown_blk (grown4 wr _ _ _ _ _) hi.res (by omega), set4 hi.new, hi.bel.grown (grown4 wr _ _ _ _ _) hi.bel.size (fun b e => by cases e; omega)⟩
theorem CntI.cold {w : World} {p A Z : Nat} {wr : World} {h : Hd} (hi : CntI w p A Z wr h) (i : Nat) : wr.frozen? ⟨w.heap.size + 2, i, none⟩ = false := frz hi.new i
set_option maxRecDepth 20000 in
set_option maxHeartbeats 3200000 in
theorem counting_t {w : World} {p n : Nat} {d : Dst} {F : Nat → Prop} (hd : Dsk w p d n F) (hoff : d.off = false) (A Z : Nat) (hZ : 3 ≤ Z) (hAZ : A + Z ≤ d.S.length) (ht : TabOk w) :
    Calls Tryd.prog 39 #[plV p A Z] w fun e w' => e = .returned (cntH d A Z).v ∧ Below w.heap.size w w' := by
  have hsz := hd.size
  have HD : Hid (Dsk w p d n F) := hd
  have HT : Hid (TabOk w) := ht
  have HOFF : Hid (d.off = false) := hoff
  clear hd ht hoff
  go_enter Tryd.func39, Tryd.ntmps39
  go_wp2_with fail
  have hI0 : CntI w p A Z (((w.alloc (.cells #[.pointer (some ⟨p, 0, none⟩), .int .i64 (A : Int), .int .i64 (Z : Int)] tPl)).alloc (.cells Hd.z.c tHd)).alloc (.cells Hd.z.c tHd)) Hd.z := by
    have e1 : (w.alloc (.cells #[.pointer (some ⟨p, 0, none⟩), .int .i64 (A : Int), .int .i64 (Z : Int)] tPl)).heap.size = w.heap.size + 1 := by simp
    have e2 : ((w.alloc (.cells #[.pointer (some ⟨p, 0, none⟩), .int .i64 (A : Int), .int .i64 (Z : Int)] tPl)).alloc (.cells Hd.z.c tHd)).heap.size = w.heap.size + 2 := by simp
    refine ⟨below_blk (alS (alS (Below.refl _ _) _) _) (heap_alloc_new w _), ?_, ?_, alS (alS (alS (Below.refl _ _) _) _) _⟩
    · have h9 := heap_alloc_new (w.alloc (.cells #[.pointer (some ⟨p, 0, none⟩), .int .i64 (A : Int), .int .i64 (Z : Int)] tPl)) (.cells Hd.z.c tHd)
      rw [e1] at h9
      exact below_blk (alS (Below.refl _ _) _) h9
    · have h9 := heap_alloc_new ((w.alloc (.cells #[.pointer (some ⟨p, 0, none⟩), .int .i64 (A : Int), .int .i64 (Z : Int)] tPl)).alloc (.cells Hd.z.c tHd)) (.cells Hd.z.c tHd)
      rw [e2] at h9
      exact h9
  have HI0 : Hid _ := hI0
  clear hI0
  go_loopw [9] (fun j wr => ∃ k : Nat, k ≤ 2 ∧ j = .int .i64 (k : Int) ∧ CntI w p A Z wr (cntK d A Z k)) (fun j _ => 2 - (intOf j).toNat)
  case atStart => exact ⟨0, by omega, rfl, HI0.out⟩
  case round =>
    obtain ⟨k, hk, rfl, hi⟩ := hrel
    have HI : Hid (CntI w p A Z wr (cntK d A Z k)) := hi
    obtain ⟨b0, b1, b2⟩ := cellsP3 hi.box
    clear hi
    by_cases hlt : k < 2
    · have hltI : (k : Int) < 2 := by omega
      have hkw : IntKind.i64.wrap ((k : Int) + 1) = ((k + 1 : Nat) : Int) := by rw [IntKind.wrap_i64]; omega
      obtain ⟨s, hs⟩ : ∃ s : Nat, s = A + k := ⟨_, rfl⟩
      have hsw : IntKind.i64.wrap ((A : Int) + (k : Int)) = (s : Int) := by rw [IntKind.wrap_i64]; omega
      have HRD : Hid _ := (HD.out.below HI.out.bel).read HOFF.out s (by omega)
      have HTX : Hid _ := HD.out.rdLen s (by omega)
      have HS : Hid (s = A + k) := hs
      clear hs
      go_wp2_with fail
      refine Calls.mono HRD.out ?_
      rintro e w3 ⟨v3, he3, hown3, hb3⟩
      rcases htn : (rdD d s).torn with _ | _
      · obtain ⟨xs, hxs⟩ : ∃ xs, xs = (rdD d s).text := ⟨_, rfl⟩
        have eE : readE (rdD d s) = 0 := by unfold readE; rw [htn]; rfl
        have eB : readB (rdD d s) = xs := by unfold readB; rw [htn, hxs]; rfl
        rw [eE] at he3
        rw [eB] at hown3
        subst he3
        have HXL : Hid (xs.length = 128) := by unfold Hid; rw [hxs]; exact HTX.out
        obtain ⟨a3, c3, hv3, hle3, hcm3, -, hrd3, -⟩ := hown3.val
        rw [HXL.out] at hv3 hle3
        subst hv3
        obtain ⟨q3, o3, rfl, -⟩ := hrd3 (by rw [HXL.out]; decide)
        have HRX : Hid (Rd w3 (some ⟨q3, o3, none⟩) xs) := hrd3
        have HI3 : Hid (CntI w p A Z w3 (cntK d A Z k)) := HI.out.below hb3
        have HXS : Hid (xs = (rdD d (A + k)).text ∧ (rdD d (A + k)).torn = false) := by rw [← HS.out]; exact ⟨hxs, htn⟩
        obtain ⟨y0, y1, y2⟩ := cellsP3 HI3.out.box
        obtain ⟨G, hG⟩ : ∃ G, G = hdN xs 4 6 := ⟨_, rfl⟩
        obtain ⟨E, hE⟩ : ∃ E, E = hdN xs 10 6 := ⟨_, rfl⟩
        obtain ⟨Fi, hF⟩ : ∃ Fi, Fi = hdN xs 16 6 := ⟨_, rfl⟩
        obtain ⟨Le, hL⟩ : ∃ Le, Le = hdN xs 22 6 := ⟨_, rfl⟩
        have HHD : Hid (hdRd xs = ⟨G, E, Fi, Le⟩) := by unfold Hid hdRd; rw [hG, hE, hF, hL]
        have hGlt : G < 18446744073709551616 := by rw [hG]; exact hdN_lt _ _ _ (by decide)
        have HHO : Hid _ := headOf_t q3 o3 c3 Z xs G E Fi Le hG hE hF hL HXL.out hle3 (by simp only [maxLen] at hcm3; omega) (by omega) w3 HRX.out (HT.out.below HI3.out.bel)
        obtain ⟨ok, hok⟩ : ∃ ok, ok = (decide (0 < G) && (xs == headT G E Fi Le Z)) := ⟨_, rfl⟩
        rw [← hok] at HHO
        have HOK : Hid (ok = hdOk xs Z) := by unfold Hid hdOk Hd.text; rw [hok, HHD.out]
        clear hown3 hb3 hrd3 htn hxs eE eB hG hE hF hL hok b0 b1 b2
        go_wp2_with fail
        refine Calls.mono HHO.out ?_
        rintro e w4 ⟨rfl, hb4⟩
        have HI4 : Hid (CntI w p A Z w4 (cntK d A Z k)) := HI3.out.below hb4
        clear hb4 y0 y1 y2 HHO
        have HI5 : Hid (CntI w p A Z (w4.alloc (.cells #[.int .u64 (G : Int), .int .u64 (E : Int), .int .u64 (Fi : Int), .int .u64 (Le : Int)] tHd)) (cntK d A Z k)) := HI4.out.below (alS (Below.refl _ _) _)
        obtain ⟨n0, n1, n2, n3⟩ := cells4 HI5.out.new
        have hcold := fun i => HI5.out.cold i
        have HSL : Hid (∀ u, Calls _ _ _ u _) := fun u => slot_t G E Fi Le hGlt u
        obtain ⟨og, hog⟩ : ∃ og, og = (cntK d A Z k).g := ⟨_, rfl⟩
        rw [← hog] at n0
        have HSB : Hid (slotB d A Z k (cntK d A Z k).g = (ok && (decide (G % 2 = k) && decide (og < G)))) := by
          unfold Hid slotB
          rw [← HXS.out.1, HXS.out.2, HHD.out, ← HOK.out, ← hog]
          rfl
        have HOG : Hid (og = (cntK d A Z k).g) := hog
        have HH4 : Hid ((w4.alloc (.cells #[.int .u64 (G : Int), .int .u64 (E : Int), .int .u64 (Fi : Int), .int .u64 (Le : Int)] tHd)).heap[w4.heap.size]? = some (.cells #[.int .u64 (G : Int), .int .u64 (E : Int), .int .u64 (Fi : Int), .int .u64 (Le : Int)] tHd (0, 0))) := heap_alloc_new w4 _
        clear hog
        rcases ok with _ | _
        · have HNO : Hid _ := cntK_no (d := d) (A := A) (Z := Z) (k := k) (by rw [HSB.out]; rfl)
          go_wp2_with fail
          go_roundw
          case rel => exact ⟨k + 1, by omega, by go_num, by rw [HNO.out]; exact HI5.out⟩
          case measure => simp [intOf]; omega
        · obtain ⟨sl, hsl⟩ : ∃ sl : Nat, sl = G % 2 := ⟨_, rfl⟩
          by_cases hk2 : sl = k
          · subst hk2
            have hkk : ((sl : Int) == (sl : Int)) = true := by simp
            by_cases hgt : og < G
            · have hgtI : (og : Int) < (G : Int) := by omega
              have HYES : Hid _ := cntK_yes (d := d) (A := A) (Z := Z) (k := sl) (by rw [HSB.out, decide_eq_true hsl.symm, decide_eq_true hgt]; rfl)
              rw [← HXS.out.1, HHD.out] at HYES
              have HSLT : Hid (sl = G % 2) := hsl
              clear hsl
              go_wp2_with (go_at_call 55; refine Calls.mono (HSL.out _) ?_; rintro e w6 ⟨he6, hb6⟩; rw [← HSLT.out] at he6; subst he6; have HI6 : Hid (CntI w p A Z w6 (cntK d A Z sl)) := HI5.out.below hb6; obtain ⟨m0, m1, m2, m3⟩ := cells4 HI6.out.new; rw [← HOG.out] at m0; obtain ⟨j0, j1, j2, j3⟩ := cells4 (below_blk hb6 HH4.out); have hcold6 := (fun i => HI6.out.cold i); clear hb6 n0 n1 n2 n3 hcold)
              go_roundw
              case rel => exact ⟨sl + 1, by omega, by go_num, by rw [HYES.out]; exact HI6.out.set ⟨G, E, Fi, Le⟩⟩
              case measure => simp [intOf]; omega
            · have hgtI : ¬ (og : Int) < (G : Int) := by omega
              have HNO : Hid _ := cntK_no (d := d) (A := A) (Z := Z) (k := sl) (by rw [HSB.out, decide_eq_true hsl.symm, decide_eq_false hgt]; rfl)
              have HSLT : Hid (sl = G % 2) := hsl
              clear hsl
              go_wp2_with (go_at_call 55; refine Calls.mono (HSL.out _) ?_; rintro e w6 ⟨he6, hb6⟩; rw [← HSLT.out] at he6; subst he6; have HI6 : Hid (CntI w p A Z w6 (cntK d A Z sl)) := HI5.out.below hb6; obtain ⟨m0, m1, m2, m3⟩ := cells4 HI6.out.new; rw [← HOG.out] at m0; obtain ⟨j0, j1, j2, j3⟩ := cells4 (below_blk hb6 HH4.out); have hcold6 := (fun i => HI6.out.cold i); clear hb6 n0 n1 n2 n3 hcold)
              go_roundw
              case rel => exact ⟨sl + 1, by omega, by go_num, by rw [HNO.out]; exact HI6.out⟩
              case measure => simp [intOf]; omega
          · have HNO : Hid _ := cntK_no (d := d) (A := A) (Z := Z) (k := k) (by rw [HSB.out, decide_eq_false (by omega)]; rfl)
            have hkk : ((sl : Int) == (k : Int)) = false := by simp; omega
            have HSLT : Hid (sl = G % 2) := hsl
            clear hsl
            go_wp2_with (go_at_call 55; refine Calls.mono (HSL.out _) ?_; rintro e w6 ⟨he6, hb6⟩; rw [← HSLT.out] at he6; subst he6; have HI6 : Hid (CntI w p A Z w6 (cntK d A Z k)) := HI5.out.below hb6; obtain ⟨m0, m1, m2, m3⟩ := cells4 HI6.out.new; rw [← HOG.out] at m0; obtain ⟨j0, j1, j2, j3⟩ := cells4 (below_blk hb6 HH4.out); have hcold6 := (fun i => HI6.out.cold i); clear hb6 n0 n1 n2 n3 hcold)
            go_roundw
            case rel => exact ⟨k + 1, by omega, by go_num, by rw [HNO.out]; exact HI6.out⟩
            case measure => simp [intOf]; omega
      · have HNO : Hid _ := cntK_no (d := d) (A := A) (Z := Z) (k := k) (by unfold slotB; rw [← HS.out, htn]; rfl)
        have eE : readE (rdD d s) = 40 := by unfold readE; rw [htn]; rfl
        rw [eE] at he3
        subst he3
        have HI3 : Hid (CntI w p A Z w3 (cntK d A Z k)) := HI.out.below hb3
        obtain ⟨a3, c3, hv3, -⟩ := hown3.val
        subst hv3
        clear hown3 hb3 eE htn
        go_wp2_with fail
        go_roundw
        case rel => exact ⟨k + 1, by omega, by go_num, by rw [HNO.out]; exact HI3.out⟩
        case measure => simp [intOf]; omega
    · obtain rfl : k = 2 := by omega
      have hltI : ¬ ((2 : Nat) : Int) < 2 := by omega
      obtain ⟨n0, n1, n2, n3⟩ := cells4 HI.out.new
      obtain ⟨r0, r1, r2, r3⟩ := cells4 HI.out.res
      have hcold := fun i => frz HI.out.res i
      go_wp2_with fail
      refine bodyPost_ret (results_cell_row rfl _ _ (w.heap.size + 1) tHd (cntH d A Z).c (0, 0) _ rfl (set4 HI.out.res) Tryd.underlying55 rfl (by kernel_rfl)) rfl ?_
      exact ⟨rfl, HI.out.bel.grown (grown4 wr _ _ _ _ _) HI.out.bel.size (fun b e => by cases e; omega)⟩
end Go.Proofs.YtibepnilhmbpeaaDoor
namespace Go.Proofs.YtibepnilhmbpeaaDoor
set_option linter.unusedVariables false
set_option linter.unusedSimpArgs false
open Go.RowKit
/-- what is done with a disk: a Flush, or a Write -/
structure Wop where
  fl : Bool
  i : Nat
  x : List UInt8
abbrev Wop.w (i : Nat) (x : List UInt8) : Wop := ⟨false, i, x⟩
abbrev Wop.f : Wop := ⟨true, 0, []⟩
def Wop.act (d : Dst) (o : Wop) : Dst := if o.fl = true then d.flush else d.write o.i o.x
/-- one behind the other, up to the first that finds no power -/
def runO : Dst → List Wop → Dst × Bool
  | d, [] => (d, true)
  | d, o :: r => if d.can = true then runO (Wop.act d o) r else (d.begun, false)
theorem act_no {d : Dst} (h : d.can = false) (o : Wop) : Wop.act d o = d.begun := by
  unfold Wop.act
  split
  · unfold Dst.flush; rw [h]; rfl
  · unfold Dst.write; rw [h]; rfl
theorem runO_app : ∀ (a b : List Wop) (d : Dst), runO d (a ++ b) = if (runO d a).2 = true then runO (runO d a).1 b else ((runO d a).1, false)
  | [], b, d => by simp [runO]
  | o :: r, b, d => by
    show (if d.can = true then runO (Wop.act d o) (r ++ b) else (d.begun, false)) = _
    by_cases h : d.can = true
    · rw [if_pos h, runO_app r b (Wop.act d o)]
      show _ = if (if d.can = true then runO (Wop.act d o) r else (d.begun, false)).2 = true then _ else _
      rw [if_pos h]
      simp only [runO, if_pos h]
    · rw [if_neg h]
      simp [runO, h]
theorem runO_snoc {a : List Wop} {d : Dst} (o : Wop) (h : (runO d a).2 = true) : runO d (a ++ [o]) = if (runO d a).1.can = true then (Wop.act (runO d a).1 o, true) else ((runO d a).1.begun, false) := by
  rw [runO_app, if_pos h]
  rfl
theorem Wop.act_len (d : Dst) (o : Wop) : (Wop.act d o).S.length = d.S.length := by
  unfold Wop.act
  split
  · exact Dst.flush_len d
  · exact Dst.write_len d _ _
theorem runO_len : ∀ (a : List Wop) (d : Dst), (runO d a).1.S.length = d.S.length
  | [], d => rfl
  | o :: r, d => by
    unfold runO
    split
    · rw [runO_len r, Wop.act_len]
    · rfl
theorem DLft.start {w : World} {p n : Nat} {d : Dst} {F : Nat → Prop} (h : Dsk w p d n F) : DLft w p d n F w := ⟨⟨F, h, fun b hb => .inl hb⟩, Chg.refl _ _⟩
theorem DLft.below {W w w' : World} {p n : Nat} {d : Dst} {F : Nat → Prop} (h : DLft W p d n F w) (hb : Below w.heap.size w w') : DLft W p d n F w' := by
  obtain ⟨F', h1, h2⟩ := h.ex
  exact ⟨⟨F', h1.below hb, h2⟩, h.chg.trans (G := fun _ => False) (Chg.of_below hb) (fun _ h => h.elim)⟩
theorem DLft.frm {w W0 w' : World} {p n : Nat} {d : Dst} {F : Nat → Prop} (hb : Below w.heap.size w W0) (h : DLft W0 p d n F w') : DLft w p d n F w' := by
  obtain ⟨F', h1, h2⟩ := h.ex
  exact ⟨⟨F', h1, fun b hf => (h2 b hf).imp id (fun h => Nat.le_trans hb.size h)⟩, (Chg.of_below hb).trans h.chg (fun i h => .inl h)⟩
/-- a call on the disk amid others -/
theorem DLft.next {W w w' : World} {p n n' : Nat} {d d' : Dst} {F : Nat → Prop} (h : DLft W p d n F w) (k : ∀ F', Dsk w p d n F' → DLft w p d' n' F' w') : DLft W p d' n' F w' := by
  obtain ⟨F', h1, h2⟩ := h.ex
  have k1 := k F' h1
  obtain ⟨F2, h3, h4⟩ := k1.ex
  refine ⟨⟨F2, h3, fun b hb => ?_⟩, h.chg.trans k1.chg h2⟩
  rcases h4 b hb with h5 | h5
  · exact h2 b h5
  · exact .inr (Nat.le_trans h.chg.size h5)
theorem TabOk.chg {w w' : World} {F : Nat → Prop} (h : TabOk w) (hc : Chg F w w') (hF : ¬ F 0) : TabOk w' := fun m => by
  have h1 := h m
  exact (World.cell?_of_block (hc.block _ (World.block_lt_of_cell? w _ h1) hF)).trans h1
section
variable {W w : World} {p n : Nat} {d : Dst} {F : Nat → Prop}
theorem DLft.write (h : DLft W p d n F w) (hn : n < 1099511627776) (i : Nat) (hi : i < d.S.length) (ba : Option Addr) (bc : Nat) (xs : List UInt8) (hx : Rd w ba xs) (hl : xs.length = 128) (hbp : ∀ a, ba = some a → a.block ≠ p) :
    Calls Tryd.prog 67 #[.pointer (some ⟨p, 0, none⟩), .int .i64 (i : Int), .slice ba 128 bc] w fun e w' => e = .returned (.int .i64 (if d.can then 0 else 5)) ∧ DLft W p (d.write i xs) (n + 1) F w' := by
  obtain ⟨F', h1, h2⟩ := h.ex
  refine Calls.mono (h1.write hn i hi ba bc xs hx hl hbp) ?_
  rintro e w' ⟨rfl, h3⟩
  refine ⟨rfl, ?_⟩
  obtain ⟨F2, h4, h5⟩ := h3.ex
  refine ⟨⟨F2, h4, fun b hb => ?_⟩, h.chg.trans h3.chg h2⟩
  rcases h5 b hb with h6 | h6
  · exact h2 b h6
  · exact .inr (Nat.le_trans h.chg.size h6)
theorem DLft.flush (h : DLft W p d n F w) :
    Calls Tryd.prog 20 #[.pointer (some ⟨p, 0, none⟩)] w fun e w' => e = .returned (.int .i64 (if d.can then 0 else 5)) ∧ DLft W p d.flush n F w' := by
  obtain ⟨F', h1, h2⟩ := h.ex
  refine Calls.mono h1.flush ?_
  rintro e w' ⟨rfl, h3⟩
  refine ⟨rfl, ?_⟩
  obtain ⟨F2, h4, h5⟩ := h3.ex
  refine ⟨⟨F2, h4, fun b hb => ?_⟩, h.chg.trans h3.chg h2⟩
  rcases h5 b hb with h6 | h6
  · exact h2 b h6
  · exact .inr (Nat.le_trans h.chg.size h6)
end
/-- zeros in the sectors from f on, k of them -/
def zerT : List UInt8 := List.replicate 128 0
def wipL (A f : Nat) : Nat → List Wop
  | 0 => []
  | k + 1 => wipL A f k ++ [.w (A + (f + k)) zerT]
theorem wip_fail {A f : Nat} {d : Dst} {k : Nat} (h : (runO d (wipL A f k)).2 = false) : ∀ j, k ≤ j → runO d (wipL A f j) = ((runO d (wipL A f k)).1, false)
  | 0, hj => by
    obtain rfl : k = 0 := by omega
    rw [← h]
  | j + 1, hj => by
    by_cases e : k = j + 1
    · rw [e] at h ⊢
      rw [← h]
    · have ih := wip_fail h j (by omega)
      show runO d (wipL A f j ++ _) = _
      rw [runO_app, ih]
      rfl
theorem bv_zer : bv zerT = List.replicate 128 (Value.int .u8 0) := by unfold bv zerT; rw [List.map_replicate]; rfl
theorem make_z (w : World) : (Instr.makeSlice 27 (.int .i64 128) (.int .i64 128)).run Tryd.prog w = .ok (.slice (some ⟨w.heap.size, 0, none⟩) 128 128) (w.alloc (.cells (bv zerT).toArray 5)) := by
  rw [bv_zer]
  exact make_bytes 128 (by decide) w
theorem Dsk.more {w : World} {p n n' : Nat} {d : Dst} {F : Nat → Prop} (h : Dsk w p d n F) (hn : n ≤ n') (hm : n' ≤ 1099511627776) : Dsk w p d n' F := by
  obtain ⟨g, m, V, h1, h2⟩ := h.ex
  exact ⟨⟨g, m, V, DK.more h1 hn hm, h2⟩, h.lt⟩
theorem DLft.more {W w : World} {p n n' : Nat} {d : Dst} {F : Nat → Prop} (h : DLft W p d n F w) (hn : n ≤ n') (hm : n' ≤ 1099511627776) : DLft W p d n' F w := by
  obtain ⟨F', h1, h2⟩ := h.ex
  exact ⟨⟨F', h1.more hn hm, h2⟩, h.chg⟩
/-- what an operation's row leaves: error 5, or none -/
def opE (b : Bool) : Int := if b = true then 0 else 5
set_option maxRecDepth 20000 in
set_option maxHeartbeats 3200000 in
theorem wipe_t {w : World} {p n : Nat} {d : Dst} {F : Nat → Prop} (hd : Dsk w p d n F) (A Z f t : Nat) (hft : f ≤ t) (ht : A + t ≤ d.S.length) (hn : n + (t - f) < 1099511627776) :
    Calls Tryd.prog 56 #[plV p A Z, .int .i64 (f : Int), .int .i64 (t : Int)] w fun e w' => e = .returned (.int .i64 (opE (runO d (wipL A f (t - f) ++ [.f])).2)) ∧ DLft w p (runO d (wipL A f (t - f) ++ [.f])).1 (n + (t - f)) F w' := by
  have hsz := hd.size
  have hmk := fun u => make_z u
  obtain ⟨T, hT⟩ : ∃ T, T = t - f := ⟨_, rfl⟩
  rw [← hT] at hn ⊢
  have HD : Hid (Dsk w p d n F) := hd
  have HFT : Hid (T = t - f) := hT
  clear hd hT
  go_enter Tryd.func56, Tryd.ntmps56
  go_wp2_with fail
  have hb0 : Below w.heap.size w ((w.alloc (.cells #[.pointer (some ⟨p, 0, none⟩), .int .i64 (A : Int), .int .i64 (Z : Int)] tPl)).alloc (.cells (bv zerT).toArray 5)) := alS (alS (Below.refl _ _) _) _
  have hbx : ((w.alloc (.cells #[.pointer (some ⟨p, 0, none⟩), .int .i64 (A : Int), .int .i64 (Z : Int)] tPl)).alloc (.cells (bv zerT).toArray 5)).heap[w.heap.size]? = some (.cells #[.pointer (some ⟨p, 0, none⟩), .int .i64 (A : Int), .int .i64 (Z : Int)] tPl (0, 0)) := below_blk (alS (Below.refl _ _) _) (heap_alloc_new w _)
  have hbz : ((w.alloc (.cells #[.pointer (some ⟨p, 0, none⟩), .int .i64 (A : Int), .int .i64 (Z : Int)] tPl)).alloc (.cells (bv zerT).toArray 5)).heap[w.heap.size + 1]? = some (.cells (bv zerT).toArray 5 (0, 0)) := by
    have h9 := heap_alloc_new (w.alloc (.cells #[.pointer (some ⟨p, 0, none⟩), .int .i64 (A : Int), .int .i64 (Z : Int)] tPl)) (.cells (bv zerT).toArray 5)
    rw [show (w.alloc (.cells #[.pointer (some ⟨p, 0, none⟩), .int .i64 (A : Int), .int .i64 (Z : Int)] tPl)).heap.size = w.heap.size + 1 by simp] at h9
    exact h9
  generalize ((w.alloc (.cells #[.pointer (some ⟨p, 0, none⟩), .int .i64 (A : Int), .int .i64 (Z : Int)] tPl)).alloc (.cells (bv zerT).toArray 5)) = W0 at *
  have HB0 : Hid (Below w.heap.size w W0) := hb0
  have HLT : Hid (∀ b, F b → b < w.heap.size) := HD.out.lt
  have HC : Hid (∀ u, Chg F W0 u → u.heap[w.heap.size]? = some (.cells #[.pointer (some ⟨p, 0, none⟩), .int .i64 (A : Int), .int .i64 (Z : Int)] tPl (0, 0)) ∧ u.heap[w.heap.size + 1]? = some (.cells (bv zerT).toArray 5 (0, 0))) := fun u hu => ⟨(hu.block _ (Array.getElem?_eq_some_iff.1 hbx).1 (fun h => by have := HLT.out _ h; omega)).trans hbx, (hu.block _ (Array.getElem?_eq_some_iff.1 hbz).1 (fun h => by have := HLT.out _ h; omega)).trans hbz⟩
  have HPW : Hid (p < w.heap.size) := HD.out.lt p HD.out.inF
  have HS0 : Hid (DLft W0 p d n F W0) := DLft.start (HD.out.below hb0)
  clear hb0 hbx hbz hmk
  go_loopw [8] (fun j wr => ∃ k : Nat, k ≤ T ∧ j = .int .i64 ((f + k : Nat) : Int) ∧ Hid ((runO d (wipL A f k)).2 = true) ∧ DLft W0 p (runO d (wipL A f k)).1 (n + k) F wr) (fun j _ => f + T - (intOf j).toNat)
  case atStart => exact ⟨0, Nat.zero_le _, rfl, rfl, HS0.out⟩
  case round =>
    obtain ⟨k, hk, rfl, HOK, hp⟩ := hrel
    have HP : Hid (DLft W0 p (runO d (wipL A f k)).1 (n + k) F wr) := hp
    obtain ⟨hbx, hbz⟩ := HC.out wr hp.chg
    obtain ⟨b0, b1, b2⟩ := cellsP3 hbx
    have HRZ : Hid (Rd wr (some ⟨w.heap.size + 1, 0, none⟩) zerT) := rd_row hbz
    obtain ⟨i, hi⟩ : ∃ i, i = f + k := ⟨_, rfl⟩
    rw [← hi]
    clear hp hbx hbz
    by_cases hlt : k < T
    · have hiI : (i : Int) < (t : Int) := by have := HFT.out; omega
      have hiw : IntKind.i64.wrap ((i : Int) + 1) = ((i + 1 : Nat) : Int) := by rw [IntKind.wrap_i64]; have := HFT.out; omega
      obtain ⟨s, hs⟩ : ∃ s, s = A + i := ⟨_, rfl⟩
      have hsw : IntKind.i64.wrap ((A : Int) + (i : Int)) = (s : Int) := by rw [IntKind.wrap_i64]; have := HFT.out; omega
      have HWR : Hid _ := HP.out.write (by omega) s (by rw [runO_len]; have := HFT.out; omega) (some ⟨w.heap.size + 1, 0, none⟩) 128 zerT HRZ.out (by decide) (fun a e => by cases e; have := HPW.out; show ¬ w.heap.size + 1 = p; omega)
      have HS : Hid (s = A + (f + k) ∧ i = f + k) := ⟨by omega, hi⟩
      have hsn := runO_snoc (.w (A + (f + k)) zerT) HOK.out
      have hact : Wop.act (runO d (wipL A f k)).1 (.w (A + (f + k)) zerT) = (runO d (wipL A f k)).1.write s zerT := by rw [HS.out.1]; rfl
      rcases hc : (runO d (wipL A f k)).1.can with _ | _
      · rw [hc] at HWR hsn
        rw [← act_no hc (.w (A + (f + k)) zerT), hact, if_neg (by simp)] at hsn
        have HF : Hid (runO d (wipL A f T ++ [.f]) = ((runO d (wipL A f k)).1.write s zerT, false)) := by
          have h8 : runO d (wipL A f (k + 1)) = ((runO d (wipL A f k)).1.write s zerT, false) := hsn
          have h9 := wip_fail (A := A) (f := f) (d := d) (k := k + 1) (by rw [h8]) T (by omega)
          unfold Hid
          rw [runO_app, h9, h8]
          rfl
        clear hsn hact hc hs hi
        go_wp2_with (go_at_call 67; refine Calls.mono HWR.out ?_; rintro e w3 ⟨rfl, h3⟩; have HL3 : Hid _ := h3; clear h3)
        go_ret
        rw [HF.out]
        exact ⟨rfl, DLft.frm HB0.out (HL3.out.more (by omega) (by omega))⟩
      · rw [hc] at HWR hsn
        rw [hact, if_pos rfl] at hsn
        have HSN : Hid (runO d (wipL A f (k + 1)) = ((runO d (wipL A f k)).1.write s zerT, true)) := hsn
        clear hsn hact hc hs hi
        go_wp2_with (go_at_call 67; refine Calls.mono HWR.out ?_; rintro e w3 ⟨rfl, h3⟩; have HL3 : Hid _ := h3; clear h3)
        go_roundw
        case rel => exact ⟨k + 1, by omega, by (rw [HS.out.2]; go_num), by unfold Hid; rw [HSN.out], by rw [HSN.out]; exact HL3.out⟩
        case measure => have := HS.out.2; simp [intOf]; omega
    · obtain rfl : k = T := by omega
      have hit : i = t := by have := HFT.out; omega
      subst hit
      have hiI : ¬ (i : Int) < (i : Int) := by omega
      have HFL : Hid _ := HP.out.flush
      have hsn := runO_snoc .f HOK.out
      rcases hc : (runO d (wipL A f k)).1.can with _ | _
      · rw [hc] at HFL hsn
        rw [← act_no hc .f, if_neg (by simp)] at hsn
        have HSN : Hid (runO d (wipL A f k ++ [.f]) = ((runO d (wipL A f k)).1.flush, false)) := hsn
        clear hsn hc hi
        go_wp2_with (go_at_call 20; refine Calls.mono HFL.out ?_; rintro e w3 ⟨rfl, h3⟩; have HL3 : Hid _ := h3; clear h3)
        go_ret
        rw [HSN.out]
        exact ⟨rfl, DLft.frm HB0.out HL3.out⟩
      · rw [hc] at HFL hsn
        rw [if_pos rfl] at hsn
        have HSN : Hid (runO d (wipL A f k ++ [.f]) = ((runO d (wipL A f k)).1.flush, true)) := hsn
        clear hsn hc hi
        go_wp2_with (go_at_call 20; refine Calls.mono HFL.out ?_; rintro e w3 ⟨rfl, h3⟩; have HL3 : Hid _ := h3; clear h3)
        go_ret
        rw [HSN.out]
        exact ⟨rfl, DLft.frm HB0.out HL3.out⟩
end Go.Proofs.YtibepnilhmbpeaaDoor
