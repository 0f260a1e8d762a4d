import Derived.Test.YtibepnilhmbpeaaDoorSLd
namespace Go.Proofs.YtibepnilhmbpeaaDoor
set_option linter.unusedVariables false
set_option linter.unusedSimpArgs false
open Go.RowKit
/-- sectors that are free -/
def Lg.free (x : Lg) : Nat := x.h.f + (x.Z - 2) - x.nx
theorem sfree_t (g p : Nat) (x : Lg) (sa : Option Addr) (sc : Nat) (w : World) (hg : w.heap[g]? = some (.cells (x.c p sa sc) tLg (0, 0))) (hZ : 2 ≤ x.Z) (hZ2 : x.Z ≤ 65536) (hf : x.h.f ≤ 1152921504606846976) (hn : x.nx ≤ x.h.f + (x.Z - 2)) :
    Calls Tryd.prog 12 #[.pointer (some ⟨g, 0, none⟩)] w fun e w' => e = .returned (.int .i64 (x.free : Int)) ∧ Below w.heap.size w w' := by
  obtain ⟨R, hR⟩ : ∃ R : Nat, R = x.Z - 2 := ⟨_, rfl⟩
  obtain ⟨f, hfE⟩ : ∃ f : Nat, f = x.h.f := ⟨_, rfl⟩
  obtain ⟨m, hmE⟩ : ∃ m : Nat, m = x.nx := ⟨_, rfl⟩
  obtain ⟨q, hq⟩ : ∃ q : Nat, q = x.free := ⟨_, rfl⟩
  rw [← hq]
  have hq2 : q = f + R - m := by rw [hq, hfE, hR, hmE]; rfl
  obtain ⟨s, hs⟩ : ∃ s : Nat, s = f + R := ⟨_, rfl⟩
  have h1 : IntKind.u64.wrap ((f : Int) + (R : Int)) = (s : Int) := by rw [IntKind.wrap_u64]; omega
  have h2 : IntKind.u64.wrap ((s : Int) - (m : Int)) = (q : Int) := by rw [IntKind.wrap_u64]; omega
  have h3 : IntKind.i64.wrap (q : Int) = (q : Int) := by rw [IntKind.wrap_i64]; omega
  have HM : Hid (Calls _ _ _ w _) := smade_t g p x sa sc w hg
  have HRT : Hid (∀ u, Calls Tryd.prog 32 #[plV p x.A x.Z] u fun e w' => e = .returned (.int .u64 (R : Int)) ∧ Below u.heap.size u w') := fun u => by rw [hR]; exact ring_t p x.A x.Z (by omega) hZ2 u
  have HC : Hid (∀ u, Below w.heap.size w u → u.heap[g]? = some (.cells (x.c p sa sc) tLg (0, 0))) := fun u hu => below_blk hu hg
  have HC5 : Hid (∀ u, Below w.heap.size w u → u.cell? ⟨g, 5, none⟩ = some (.int .u64 (f : Int))) := fun u hu => by rw [hfE]; exact (cells10 (HC.out u hu)).2.2.2.2.2.1
  have HC7 : Hid (∀ u, Below w.heap.size w u → u.cell? ⟨g, 7, none⟩ = some (.int .u64 (m : Int))) := fun u hu => by rw [hmE]; exact (cells10 (HC.out u hu)).2.2.2.2.2.2.2.1
  have HD0 : Hid (Below w.heap.size w w.drew) := (Below.refl _ _).drew
  clear hg hZ hZ2 hf hn hR hfE hmE hq hq2 hs
  go_enter Tryd.func12, Tryd.ntmps12
  go_wp2_with (go_at_call 31; refine Calls.mono HM.out ?_; rintro e w' ⟨rfl, hq⟩; have hq := hq.symm; subst hq)
  refine wp_region_held_drew (S := (fun u => Below w.heap.size w u)) (by kernel_rfl) (by first | exact HD0.out | exact HB2.out | assumption) (fun hHeld => ?_)
  refine take_at (i := 0) 6 (v := ?_) rfl rfl (by kernel_rfl) (by kernel_rfl) (by kernel_rfl) (fun _ _ _ h => h) (by rfl) ?_ hHeld ?_
  rotate_left
  · (intro w hSw; (try dsimp only at hSw); go_simp; try with_reducible rfl)
  simp only [Act.put, List.setIfInBounds_toArray, List.set_cons_zero, List.set_cons_succ]
  refine take_at (i := 1) 7 (v := ?_) rfl rfl (by kernel_rfl) (by kernel_rfl) (by kernel_rfl) (fun _ _ _ h => h) (by rfl) ?_ hHeld ?_
  rotate_left
  · (intro w hSw; (try dsimp only at hSw); go_simp; try with_reducible rfl)
  simp only [Act.put, List.setIfInBounds_toArray, List.set_cons_zero, List.set_cons_succ]
  refine take_at (i := 2) 8 (v := ?_) rfl rfl (by kernel_rfl) (by kernel_rfl) (by kernel_rfl) (fun _ _ _ h => h) (by rfl) ?_ hHeld ?_
  rotate_left
  · (intro w hSw; (try dsimp only at hSw); go_simp; try with_reducible rfl)
  simp only [Act.put, List.setIfInBounds_toArray, List.set_cons_zero, List.set_cons_succ]
  refine take_at (i := 3) 9 (v := ?_) rfl rfl (by kernel_rfl) (by kernel_rfl) (by kernel_rfl) (fun _ _ _ h => h) (by rfl) ?_ hHeld ?_
  rotate_left
  · (intro w hSw; (try dsimp only at hSw); go_simp; try with_reducible rfl)
  simp only [Act.put, List.setIfInBounds_toArray, List.set_cons_zero, List.set_cons_succ]
  refine take_at (i := 4) 10 (v := .int .u64 (f : Int)) rfl rfl (by kernel_rfl) (by kernel_rfl) (by kernel_rfl) (fun _ _ _ h => h) (by rfl) ?_ hHeld ?_
  · (intro w hSw; have hc9 := HC5.out _ hSw; go_simp; try with_reducible rfl)
  simp only [Act.put, List.setIfInBounds_toArray, List.set_cons_zero, List.set_cons_succ]
  refine take_at (i := 5) 11 (v := ?_) rfl rfl (by kernel_rfl) (by kernel_rfl) (by kernel_rfl) (fun _ _ _ h => h) (by rfl) ?_ hHeld ?_
  rotate_left
  · (intro w hSw; (try dsimp only at hSw); go_simp; try with_reducible rfl)
  simp only [Act.put, List.setIfInBounds_toArray, List.set_cons_zero, List.set_cons_succ]
  refine take_at (i := 6) 12 (v := ?_) rfl rfl (by kernel_rfl) (by kernel_rfl) (by kernel_rfl) (fun _ _ _ h => h) (by rfl) ?_ hHeld ?_
  rotate_left
  · (intro w hSw; (try dsimp only at hSw); go_simp; try with_reducible rfl)
  simp only [Act.put, List.setIfInBounds_toArray, List.set_cons_zero, List.set_cons_succ]
  refine take_at (i := 7) 13 (v := ?_) rfl rfl (by kernel_rfl) (by kernel_rfl) (by kernel_rfl) (fun _ _ _ h => h) (by rfl) ?_ hHeld ?_
  rotate_left
  · (intro w hSw; (try dsimp only at hSw); go_simp; try with_reducible rfl)
  simp only [Act.put, List.setIfInBounds_toArray, List.set_cons_zero, List.set_cons_succ]
  refine take_at (i := 8) 14 (v := plV p x.A x.Z) rfl rfl (by kernel_rfl) (by kernel_rfl) (by kernel_rfl) (fun _ _ _ h => h) (by rfl) ?_ hHeld ?_
  · (intro w hSw; refine exec_load (by rfl) ?_; exact plLoadL g p x sa sc _ (HC.out _ hSw))
  simp only [Act.put, List.setIfInBounds_toArray, List.set_cons_zero, List.set_cons_succ]
  refine take_at (i := 11) 17 (v := ?_) rfl rfl (by kernel_rfl) (by kernel_rfl) (by kernel_rfl) (fun _ _ _ h => h) (by rfl) ?_ hHeld ?_
  rotate_left
  · (intro w hSw; (try dsimp only at hSw); go_simp; try with_reducible rfl)
  simp only [Act.put, List.setIfInBounds_toArray, List.set_cons_zero, List.set_cons_succ]
  refine take_at (i := 12) 18 (v := ?_) rfl rfl (by kernel_rfl) (by kernel_rfl) (by kernel_rfl) (fun _ _ _ h => h) (by rfl) ?_ hHeld ?_
  rotate_left
  · (intro w hSw; (try dsimp only at hSw); go_simp; try with_reducible rfl)
  simp only [Act.put, List.setIfInBounds_toArray, List.set_cons_zero, List.set_cons_succ]
  refine take_at (i := 13) 19 (v := ?_) rfl rfl (by kernel_rfl) (by kernel_rfl) (by kernel_rfl) (fun _ _ _ h => h) (by rfl) ?_ hHeld ?_
  rotate_left
  · (intro w hSw; (try dsimp only at hSw); go_simp; try with_reducible rfl)
  simp only [Act.put, List.setIfInBounds_toArray, List.set_cons_zero, List.set_cons_succ]
  refine take_at (i := 14) 20 (v := .int .u64 (m : Int)) rfl rfl (by kernel_rfl) (by kernel_rfl) (by kernel_rfl) (fun _ _ _ h => h) (by rfl) ?_ hHeld ?_
  · (intro w hSw; have hc9 := HC7.out _ hSw; go_simp; try with_reducible rfl)
  simp only [Act.put, List.setIfInBounds_toArray, List.set_cons_zero, List.set_cons_succ]
  refine run_at (i := 9) rfl (by kernel_rfl) (by rfl) (fun K hK => ?_)
  simp only [List.getElem_toArray, List.getElem_cons_zero, List.getElem_cons_succ]
  go_simp
  (go_at_call 32; refine Calls.mono (HRT.out _) ?_; rintro e u2 ⟨rfl, hu2⟩; have HB2 : Hid (Below w.heap.size w u2) := below_next HD0.out hu2)
  go_wp2_with fail
  refine hK.out _ _ (by first | exact HD0.out | exact HB2.out | assumption) ?_
  clear hK K
  intro hHeld2
  clear hHeld
  have hHeld := hHeld2
  clear hHeld2
  try simp only [Act.put, List.setIfInBounds_toArray, List.set_cons_zero, List.set_cons_succ]
  refine take_at (i := 10) 16 (v := ?_) rfl rfl (by kernel_rfl) (by kernel_rfl) (by kernel_rfl) (fun _ _ _ h => h) (by rfl) ?_ hHeld ?_
  rotate_left
  · (intro w hSw; (try dsimp only at hSw); go_simp; try with_reducible rfl)
  simp only [Act.put, List.setIfInBounds_toArray, List.set_cons_zero, List.set_cons_succ]
  refine take_at (i := 15) 21 (v := ?_) rfl rfl (by kernel_rfl) (by kernel_rfl) (by kernel_rfl) (fun _ _ _ h => h) (by rfl) ?_ hHeld ?_
  rotate_left
  · (intro w hSw; (try dsimp only at hSw); go_simp; try with_reducible rfl)
  simp only [Act.put, List.setIfInBounds_toArray, List.set_cons_zero, List.set_cons_succ]
  refine take_at (i := 16) 22 (v := ?_) rfl rfl (by kernel_rfl) (by kernel_rfl) (by kernel_rfl) (fun _ _ _ h => h) (by rfl) ?_ hHeld ?_
  rotate_left
  · (intro w hSw; (try dsimp only at hSw); go_simp; try with_reducible rfl)
  simp only [Act.put, List.setIfInBounds_toArray, List.set_cons_zero, List.set_cons_succ]
  refine take_at (i := 17) 2 (v := ?_) rfl rfl (by kernel_rfl) (by kernel_rfl) (by kernel_rfl) (fun _ _ _ h => h) (by rfl) ?_ hHeld ?_
  rotate_left
  · (intro w hSw; (try dsimp only at hSw); go_simp; try with_reducible rfl)
  simp only [Act.put, List.setIfInBounds_toArray, List.set_cons_zero, List.set_cons_succ]
  refine wpAnyH_done (by kernel_rfl) ?_ _
  go_wp2
  go_ret
  exact ⟨rfl, HB2.out⟩
end Go.Proofs.YtibepnilhmbpeaaDoor
namespace Go.Proofs.YtibepnilhmbpeaaDoor
set_option linter.unusedVariables false
set_option linter.unusedSimpArgs false
open Go.RowKit
theorem wpo_storeLH {w : World} {o : Oper} {a : Act} {K' : Act → World → Prop} {Q : Exit → Act → World → Prop} (y z : Operand) (ho : o.op = .store tHd y z) (g p : Nat) (x : Lg) (sa : Option Addr) (sc : Nat) (h : Hd)
    (hx : a.eval y = .pointer (some ⟨g, 3, none⟩)) (hy : a.eval z = h.v) (hg : w.heap[g]? = some (.cells (x.c p sa sc) tLg (0, 0)))
    (hK : ∀ z, z.heap[g]? = some (.cells (({ x with h := h } : Lg).c p sa sc) tLg (0, 0)) → w.grownBy z (some g) → K' (a.put o.dst undef) z) : Oper.wp Tryd.prog o a w K' Q := by
  refine wp_store_mid tHd y z ho g 3 h.c hx hy (fun j hj => ?_) infoHd (all_oneCell_toArray (cs := [.int .u64 (h.g : Int), .int .u64 (h.e : Int), .int .u64 (h.f : Int), .int .u64 (h.l : Int)]) (fun v hv => by simp at hv; rcases hv with rfl | rfl | rfl | rfl <;> rfl)) (hK _ ?_ ?_)
  · obtain ⟨-, -, -, c3, c4, c5, c6, -⟩ := cells10 hg
    have hf := frz hg (3 + j)
    have hj : j < 4 := hj
    rcases j with _ | _ | _ | _ | j
    · exact ⟨by rw [c3]; rfl, hf⟩
    · exact ⟨by rw [c4]; rfl, hf⟩
    · exact ⟨by rw [c5]; rfl, hf⟩
    · exact ⟨by rw [c6]; rfl, hf⟩
    · omega
  · have h0 := heap_setCell_same w g 3 _ _ (.int .u64 (h.g : Int)) hg
    have h1 := heap_setCell_same _ g 4 _ _ (.int .u64 (h.e : Int)) h0
    have h2 := heap_setCell_same _ g 5 _ _ (.int .u64 (h.f : Int)) h1
    exact heap_setCell_same _ g 6 _ _ (.int .u64 (h.l : Int)) h2
  · exact (((gset1 w g 3 _).trans' (gset1 _ g 4 _)).trans' (gset1 _ g 5 _)).trans' (gset1 _ g 6 _)
theorem wpo_storeLS {w : World} {o : Oper} {a : Act} {K' : Act → World → Prop} {Q : Exit → Act → World → Prop} (y z : Operand) (ho : o.op = .store 56 y z) (g p : Nat) (x : Lg) (sa sb : Option Addr) (sc sd : Nat) (L : List Sta) (N : Nat) (hN : N = L.length)
    (hx : a.eval y = .pointer (some ⟨g, 8, none⟩)) (hy : a.eval z = .slice sb N sd) (hg : w.heap[g]? = some (.cells (x.c p sa sc) tLg (0, 0)))
    (hK : ∀ z, z.heap[g]? = some (.cells (({ x with L := L } : Lg).c p sb sd) tLg (0, 0)) → w.grownBy z (some g) → K' (a.put o.dst undef) z) : Oper.wp Tryd.prog o a w K' Q := by
  subst hN
  obtain ⟨-, -, -, -, -, -, -, -, c8, -⟩ := cells10 hg
  have hf := frz hg 8
  have hz := hK _ (heap_setCell_same w g 8 _ _ (.slice sb L.length sd) hg) (gset1 w g 8 _)
  unfold Oper.wp execOp
  simp only [ho, hx, hy]
  go_simp
  exact hz
end Go.Proofs.YtibepnilhmbpeaaDoor
namespace Go.Proofs.YtibepnilhmbpeaaDoor
set_option linter.unusedVariables false
set_option linter.unusedSimpArgs false
open Go.RowKit
/-- how many starts lie below a number -/
def cntB (L : List Sta) (n : Nat) : Nat := (L.takeWhile (fun s => decide (s.n < n))).length
theorem BsIs.cnt {L : List Sta} {n i : Nat} (h : BsIs L n i) : i = cntB L n := by
  unfold cntB
  induction L generalizing i with
  | nil => have := h.le; simp at this; simp [this]
  | cons s r ih =>
    by_cases hs : s.n < n
    · rw [List.takeWhile_cons_of_pos (by simpa using hs), List.length_cons]
      have hi : i ≠ 0 := fun e => by have := h.hi 0 s (by omega) rfl; omega
      obtain ⟨j, rfl⟩ : ∃ j, i = j + 1 := ⟨i - 1, by omega⟩
      have := ih (i := j) ⟨by have := h.le; simp at this; omega, fun q t hq ht => h.lo (q + 1) t (by omega) (by simpa using ht), fun q t hq ht => h.hi (q + 1) t (by omega) (by simpa using ht)⟩
      omega
    · rw [List.takeWhile_cons_of_neg (by simpa using hs), List.length_nil]
      rcases Nat.eq_zero_or_pos i with h0 | h0
      · exact h0
      · exact absurd (h.lo 0 s h0 rfl) hs
/-- the head with which a new epoch begins -/
def Lg.newH (x : Lg) (ep f : Nat) : Hd := ⟨x.h.g + 1, ep, f, match x.L[cntB x.L f]? with
  | none => ep
  | some s => if s.n = f then s.e else ep⟩
/-- the log behind it -/
def Lg.begun (x : Lg) (ep f : Nat) : Lg := { x with h := x.newH ep f, L := x.L.drop (cntB x.L f) }
def SB (sa : Option Addr) (sc i : Nat) : Option Addr := if sc = i then sa else sa.map (fun a => a.add (i * 2))
def Lg.bgn (x : Lg) (d : Dst) (ep f : Nat) : Lg := if (runO d (hdO x.A x.Z (x.newH ep f))).2 = true then x.begun ep f else x.hear 5
/-- amid begin: the log's box but for its fall, and the new head's -/
structure BgS (x : Lg) (g p : Nat) (sa : Option Addr) (sc H : Nat) (h : Hd) (v : World) : Prop where
  lg : ∃ b, v.heap[g]? = some (.cells (({ x with fl := b } : Lg).c p sa sc) tLg (0, 0))
  bx : v.heap[H]? = some (.cells h.c tHd (0, 0))
theorem BgS.pl {x : Lg} {g p : Nat} {sa : Option Addr} {sc H : Nat} {h : Hd} {v : World} (k : BgS x g p sa sc H h v) : (Instr.loadAt tPl (.pointer (some ⟨g, 0, none⟩))).run Tryd.prog v = .ok (plV p x.A x.Z) v := by
  obtain ⟨b, hb⟩ := k.lg
  exact plLoadL g p { x with fl := b } sa sc v hb
theorem BgS.below {x : Lg} {g p : Nat} {sa : Option Addr} {sc H : Nat} {h : Hd} {v v' : World} (k : BgS x g p sa sc H h v) (hb : Below v.heap.size v v') : BgS x g p sa sc H h v' := by
  obtain ⟨b, h1⟩ := k.lg
  exact ⟨⟨b, below_blk hb h1⟩, below_blk hb k.bx⟩
structure BgOut (w : World) (g p : Nat) (x : Lg) (sa : Option Addr) (sc : Nat) (ep f : Nat) (d : Dst) (n : Nat) (F : Nat → Prop) (w' : World) : Prop where
  lg : ∃ sa' sc', w'.heap[g]? = some (.cells ((x.bgn d ep f).c p sa' sc') tLg (0, 0)) ∧ RdG KS w' sa' (x.bgn d ep f).L ∧ ((sa' = sa ∧ sc' = sc ∧ (runO d (hdO x.A x.Z (x.newH ep f))).2 = false) ∨ (sa' = SB sa sc (cntB x.L f) ∧ sc' = sc - cntB x.L f ∧ (runO d (hdO x.A x.Z (x.newH ep f))).2 = true))
  dk : ∃ F', Dsk w' p (runO d (hdO x.A x.Z (x.newH ep f))).1 (n + 1) F' ∧ ∀ b, F' b → F b ∨ w.heap.size ≤ b
  chg : Chg (fun b => F b ∨ b = g) w w'
theorem RdG.chg {w w' : World} {sa : Option Addr} {L : List Sta} {F : Nat → Prop} (h : RdG KS w sa L) (hc : Chg F w w') (hF : ∀ a, sa = some a → ¬ F a.block) : RdG KS w' sa L := by
  intro j hj
  obtain ⟨b, o, rfl, h1, cur, fr, h2⟩ := h j hj
  have hb := hc.block b (Array.getElem?_eq_some_iff.1 h2).1 (hF _ rfl)
  exact ⟨b, o, rfl, fun q v hv => (World.cell?_of_block hb).trans (h1 q v hv), cur, fr, hb.trans h2⟩
theorem RdG.dropS {w : World} {sa : Option Addr} {L : List Sta} {sc i : Nat} (h : RdG KS w sa L) (hsc : L.length ≤ sc) : RdG KS w (SB sa sc i) (L.drop i) := by
  intro j hj
  have hj2 : j < L.length - i := by rw [List.length_drop] at hj; exact hj
  obtain ⟨b, o, rfl, h1, cur, fr, h2⟩ := h (i + j) (by omega)
  refine ⟨b, o + i * 2, ?_, ?_, cur, fr, h2⟩
  · unfold SB; rw [if_neg (by omega)]; show some (Addr.add ⟨b, o, none⟩ (i * 2)) = _; rw [Addr.add_mid]
  · have e : o + i * 2 + j * 2 = o + (i + j) * 2 := by omega
    show w.rangeAt b (o + i * 2 + j * 2) _
    rw [e, List.getElem_drop]
    exact h1
theorem BgOut_yes {w v1 v2 z3 z4 : World} {g p : Nat} {x : Lg} {sa : Option Addr} {sc ep f i : Nat} {d : Dst} {n : Nat} {F : Nat → Prop} {h : Hd} (hok : true = (runO d (hdO x.A x.Z h)).2) (hh : h = x.newH ep f) (hi : i = cntB x.L f) (hsc : x.L.length ≤ sc) (hr : RdG KS w sa x.L ∧ ∀ a, sa = some a → ¬ F a.block ∧ a.block ≠ g) (hd : Dsk w p d n F ∧ ¬ F g ∧ TabOk w) (hl : DLft w p (runO d (hdO x.A x.Z h)).1 (n + 1) F v1)
    (g2 : v1.grownBy v2 (some g)) (g3 : v2.drew.grownBy z3 (some g)) (h4 : z4.heap[g]? = some (.cells (({ ({ x with h := h } : Lg) with L := x.L.drop i } : Lg).c p (SB sa sc i) (sc - i)) tLg (0, 0))) (g4 : z3.grownBy z4 (some g)) (hgw : g < w.heap.size) : BgOut w g p x sa sc ep f d n F z4 := by
  have hb : x.bgn d ep f = x.begun ep f := by unfold Lg.bgn; rw [← hh, ← hok]; rfl
  have c1 : Chg (fun b => b = g) v1 v2 := Chg.of_grown g2 (fun b e => by cases e; rfl)
  have c2 : Chg (fun b => b = g) v2 z3 := (Chg.of_below (Below.refl _ _).drew).trans (Chg.of_grown g3 (fun b e => by cases e; rfl)) (fun i hi => .inl hi)
  have c3 : Chg (fun b => b = g) z3 z4 := Chg.of_grown g4 (fun b e => by cases e; rfl)
  have hc1 : Chg (fun b => b = g) v1 z4 := (c1.trans c2 (fun i hi => .inl hi)).trans c3 (fun i hi => .inl hi)
  have hc : Chg (fun b => F b ∨ b = g) w z4 := (hl.chg.mono (fun _ h => Or.inl h)).trans hc1 (fun i hi => .inl (.inr hi))
  obtain ⟨F', h6, h5⟩ := hl.ex
  refine ⟨⟨SB sa sc i, sc - i, ?_, ?_, .inr ⟨by rw [hi], by rw [hi], by rw [← hh]; exact hok.symm⟩⟩, ⟨F', ?_, h5⟩, hc⟩
  · rw [hb, h4]; unfold Lg.begun; rw [← hh, ← hi]
  · rw [hb]; unfold Lg.begun; rw [← hi]
    exact (hr.1.chg hc (fun a e h => h.elim (hr.2 a e).1 (hr.2 a e).2)).dropS hsc
  · rw [← hh]
    exact h6.kept hc1 (fun b hb hbg => by subst hbg; rcases h5 b hb with h7 | h7; exact hd.2.1 h7; omega)
theorem BgOut_no {w v1 v2 : World} {g p : Nat} {x : Lg} {sa : Option Addr} {sc ep f : Nat} {d : Dst} {n : Nat} {F : Nat → Prop} {h : Hd} (hok : false = (runO d (hdO x.A x.Z h)).2) (hh : h = x.newH ep f) (hr : RdG KS w sa x.L ∧ ∀ a, sa = some a → ¬ F a.block ∧ a.block ≠ g) (hd : Dsk w p d n F ∧ ¬ F g ∧ TabOk w) (hl : DLft w p (runO d (hdO x.A x.Z h)).1 (n + 1) F v1)
    (h2 : v2.heap[g]? = some (.cells ((x.hear (5 : Nat)).c p sa sc) tLg (0, 0))) (h3 : v1.grownBy v2 (some g)) (hgw : g < w.heap.size) : BgOut w g p x sa sc ep f d n F v2 := by
  have hb : x.bgn d ep f = x.hear 5 := by unfold Lg.bgn; rw [← hh, ← hok]; rfl
  have hc1 : Chg (fun b => b = g) v1 v2 := Chg.of_grown h3 (fun b e => by cases e; rfl)
  have hc : Chg (fun b => F b ∨ b = g) w v2 := (hl.chg.mono (fun _ h => Or.inl h)).trans hc1 (fun i hi => .inl (.inr hi))
  obtain ⟨F', h4, h5⟩ := hl.ex
  refine ⟨⟨sa, sc, by rw [hb]; exact h2, by rw [hb]; exact hr.1.chg hc (fun a e h => h.elim (hr.2 a e).1 (hr.2 a e).2), .inl ⟨rfl, rfl, by rw [← hh]; exact hok.symm⟩⟩, ⟨F', ?_, h5⟩, hc⟩
  rw [← hh]
  exact h4.kept hc1 (fun b hb hbg => by subst hbg; rcases h5 b hb with h6 | h6; exact hd.2.1 h6; omega)
set_option maxRecDepth 20000 in
set_option maxHeartbeats 3200000 in
theorem sbegin_t (g p : Nat) (x : Lg) (sa : Option Addr) (sc : Nat) (ep f : Nat) (d : Dst) (n : Nat) (F : Nat → Prop) (w : World) (hg : w.heap[g]? = some (.cells (x.c p sa sc) tLg (0, 0))) (hr : RdG KS w sa x.L) (hs : x.L.Pairwise (fun x y => x.n < y.n)) (hl : x.L.length ≤ 1000000) (hd : Dsk w p d n F) (hgF : ¬ F g) (hsF : ∀ a, sa = some a → ¬ F a.block ∧ a.block ≠ g) (hsc : x.L.length ≤ sc)
    (hk : (x.newH ep f).ok) (hZ : 3 ≤ x.Z) (hAZ : x.A + x.Z ≤ d.S.length) (hn : n + 1 < 1099511627776) (ht : TabOk w) :
    Calls Tryd.prog 41 #[.pointer (some ⟨g, 0, none⟩), .int .u64 (ep : Int), .int .u64 (f : Int)] w fun e w' => e = .returned (.int .i64 (opE (runO d (hdO x.A x.Z (x.newH ep f))).2)) ∧ BgOut w g p x sa sc ep f d n F w' := by
  obtain ⟨h, hh⟩ : ∃ h, h = x.newH ep f := ⟨_, rfl⟩
  have HHD : Hid (h = x.newH ep f) := hh
  obtain ⟨G, hG⟩ : ∃ G : Nat, G = x.h.g + 1 := ⟨_, rfl⟩
  have hGI : IntKind.u64.wrap ((x.h.g : Int) + 1) = (G : Int) := by have := hk.g; rw [IntKind.wrap_u64]; unfold Lg.newH at this; simp at this; omega
  rw [← hh] at hk ⊢
  have HGG : Hid (G = x.h.g + 1) := hG
  have HSC : Hid (x.L.length ≤ sc) := hsc
  clear hsc
  obtain ⟨k, hkE⟩ : ∃ k, k = cntB x.L f := ⟨_, rfl⟩
  have HKE : Hid (k = cntB x.L f) := hkE
  have HB0 : Hid (∀ u, Below w.heap.size w u → Calls _ _ _ u _) := fun u hu => find_t g p x sa sc f u (below_blk hu hg) (hr.below hu) hs hl
  obtain ⟨-, -, -, c3, -⟩ := cells10 hg
  have HG : Hid (w.heap[g]? = some (.cells (x.c p sa sc) tLg (0, 0))) := hg
  have HGN : Hid (w.heap.size ≠ g) := fun e => by have := (Array.getElem?_eq_some_iff.1 hg).1; omega
  have HR : Hid (RdG KS w sa x.L ∧ ∀ a, sa = some a → ¬ F a.block ∧ a.block ≠ g) := ⟨hr, hsF⟩
  have HD : Hid (Dsk w p d n F ∧ ¬ F g ∧ TabOk w) := ⟨hd, hgF, ht⟩
  have HWA : Hid (∀ u, Below w.heap.size w u → Calls _ _ _ u _) := fun u hu => writeHead_t (hd.below hu) x.A x.Z h hk hZ hAZ hn (ht.below hu)
  have HSA : Hid (∀ u v, Below w.heap.size w u → u.heap[w.heap.size]? = some (.cells h.c tHd (0, 0)) → Chg F u v → BgS x g p sa sc w.heap.size h v ∧ v.heap[g]? = some (.cells (x.c p sa sc) tLg (0, 0))) := fun u v hu hb hc => by
    have h1 := below_blk hu hg
    have h2 := (hc.block _ (Array.getElem?_eq_some_iff.1 h1).1 hgF).trans h1
    exact ⟨⟨⟨x.fl, h2⟩, (hc.block _ (Array.getElem?_eq_some_iff.1 hb).1 (fun e => Nat.lt_irrefl _ (hd.lt _ e))).trans hb⟩, h2⟩
  obtain ⟨ok, hok⟩ : ∃ b, b = (runO d (hdO x.A x.Z h)).2 := ⟨_, rfl⟩
  have HOK : Hid (ok = (runO d (hdO x.A x.Z h)).2) := hok
  rw [← hok] at HWA
  rw [← hok]
  clear hok hg hr hs hl hd hgF ht hG hh hk hZ hAZ hn hkE hsF
  rcases ok with _ | _
  · change Calls _ _ _ _ fun e w' => e = .returned (.int .i64 5) ∧ _
    have HWA : Hid (∀ u, Below w.heap.size w u → Calls _ _ _ u fun e w' => e = .returned (.int .i64 5) ∧ _) := HWA
    rcases hLs : x.L[k]? with _ | s
    · have HNF : Hid (h.c = #[.int .u64 (G : Int), .int .u64 (ep : Int), .int .u64 (f : Int), .int .u64 (ep : Int)]) := by
        unfold Hid; rw [HHD.out, HGG.out]; unfold Lg.newH; rw [← HKE.out, hLs]
      have HBF : Hid (bsF x.L f k = false) := by unfold Hid bsF; rw [hLs]
      clear hLs
      go_enter Tryd.func41, Tryd.ntmps41
      go_wp2_with (go_at_call 45; refine Calls.mono (HB0.out _ (alS (Below.refl _ _) _)) ?_; rintro e u ⟨i, rfl, hbs, hb1⟩; have HBS : Hid (BsIs x.L f i) := hbs; have hi := hbs.cnt; rw [← HKE.out] at hi; subst hi; rw [HBF.out]; have HU : Hid (Below w.heap.size w u) := below_next (alS (Below.refl _ _) _) hb1; have HBX : Hid (u.heap[w.heap.size]? = some (.cells h.c tHd (0, 0))) := (by unfold Hid; rw [HNF.out]; exact below_blk hb1 (heap_alloc_new w _)); clear hbs hb1 c3)
      have HS0 : Hid (BgS x g p sa sc w.heap.size h u.drew) := (HSA.out u _ HU.out HBX.out (Chg.of_below (Below.refl _ _).drew)).1
      have HST : Hid (∀ v, DLft u.drew p _ _ F v → _) := fun v (hv : DLft u.drew p (runO d (hdO x.A x.Z h)).1 (n + 1) F v) => HSA.out u.drew v HU.out.drew (below_blk (Below.refl _ _).drew HBX.out) hv.chg
      have HWH : Hid (Calls _ _ _ u.drew _) := HWA.out u.drew HU.out.drew
      refine wp_region_held_drew (S := (fun v => BgS x g p sa sc w.heap.size h v)) (by kernel_rfl) (by first | exact HS0.out | exact HS1.out.1 | exact HS2.out.1 | assumption) (fun hHeld => ?_)
      refine take_at (i := 0) 37 (v := ?_) rfl rfl (by kernel_rfl) (by kernel_rfl) (by kernel_rfl) (fun _ _ _ h => h) (by rfl) ?_ hHeld ?_
      rotate_left
      · (intro w hSw; (try dsimp only at hSw); go_simp; try with_reducible rfl)
      simp only [Act.put, List.setIfInBounds_toArray, List.set_cons_zero, List.set_cons_succ]
      refine take_at (i := 1) 38 (v := ?_) rfl rfl (by kernel_rfl) (by kernel_rfl) (by kernel_rfl) (fun _ _ _ h => h) (by rfl) ?_ hHeld ?_
      rotate_left
      · (intro w hSw; (try dsimp only at hSw); go_simp; try with_reducible rfl)
      simp only [Act.put, List.setIfInBounds_toArray, List.set_cons_zero, List.set_cons_succ]
      refine take_at (i := 2) 39 (v := ?_) rfl rfl (by kernel_rfl) (by kernel_rfl) (by kernel_rfl) (fun _ _ _ h => h) (by rfl) ?_ hHeld ?_
      rotate_left
      · (intro w hSw; (try dsimp only at hSw); go_simp; try with_reducible rfl)
      simp only [Act.put, List.setIfInBounds_toArray, List.set_cons_zero, List.set_cons_succ]
      refine take_at (i := 3) 40 (v := ?_) rfl rfl (by kernel_rfl) (by kernel_rfl) (by kernel_rfl) (fun _ _ _ h => h) (by rfl) ?_ hHeld ?_
      rotate_left
      · (intro w hSw; (try dsimp only at hSw); go_simp; try with_reducible rfl)
      simp only [Act.put, List.setIfInBounds_toArray, List.set_cons_zero, List.set_cons_succ]
      refine take_at (i := 4) 41 (v := plV p x.A x.Z) rfl rfl (by kernel_rfl) (by kernel_rfl) (by kernel_rfl) (fun _ _ _ h => h) (by rfl) ?_ hHeld ?_
      · (intro w hSw; refine exec_load (by rfl) ?_; exact hSw.pl)
      simp only [Act.put, List.setIfInBounds_toArray, List.set_cons_zero, List.set_cons_succ]
      refine take_at (i := 5) 42 (v := h.v) rfl rfl (by kernel_rfl) (by kernel_rfl) (by kernel_rfl) (fun _ _ _ h => h) (by rfl) ?_ hHeld ?_
      · (intro w hSw; refine exec_load (by rfl) ?_; exact hdLoad hSw.bx)
      simp only [Act.put, List.setIfInBounds_toArray, List.set_cons_zero, List.set_cons_succ]
      refine run_at (i := 6) rfl (by kernel_rfl) (by rfl) (fun K hK => ?_)
      simp only [List.getElem_toArray, List.getElem_cons_zero, List.getElem_cons_succ]
      go_simp
      first | (go_at_call 57; refine Calls.mono HWH.out ?_; rintro e v1 ⟨rfl, h1⟩; have HL1 : Hid (DLft w p _ (n + 1) F v1) := DLft.frm (HU.out.drew) h1; have HS1 : Hid (BgS x g p sa sc w.heap.size h v1 ∧ v1.heap[g]? = some (.cells (x.c p sa sc) tLg (0, 0))) := HST.out _ h1; have HHR : Hid (Calls _ _ _ v1 _) := heard_t g p x sa sc 5 v1 HS1.out.2; clear h1) | (go_at_call 49; refine Calls.mono HHR.out ?_; rintro e v2 ⟨rfl, h2, h3⟩; have HS2 : Hid (BgS x g p sa sc w.heap.size h v2 ∧ v2.heap[g]? = some (.cells ((x.hear (5 : Nat)).c p sa sc) tLg (0, 0)) ∧ v1.grownBy v2 (some g)) := ⟨⟨⟨_, h2⟩, grown_blk h3 HS1.out.1.bx HGN.out⟩, h2, h3⟩; clear h2 h3)
      go_wp2_with fail
      refine hK.out _ _ (by first | exact HS0.out | exact HS1.out.1 | exact HS2.out.1 | assumption) ?_
      clear hK K
      intro hHeld2
      clear hHeld
      have hHeld := hHeld2
      clear hHeld2
      try simp only [Act.put, List.setIfInBounds_toArray, List.set_cons_zero, List.set_cons_succ]
      refine run_at (i := 7) rfl (by kernel_rfl) (by rfl) (fun K hK => ?_)
      simp only [List.getElem_toArray, List.getElem_cons_zero, List.getElem_cons_succ]
      go_simp
      first | (go_at_call 57; refine Calls.mono HWH.out ?_; rintro e v1 ⟨rfl, h1⟩; have HL1 : Hid (DLft w p _ (n + 1) F v1) := DLft.frm (HU.out.drew) h1; have HS1 : Hid (BgS x g p sa sc w.heap.size h v1 ∧ v1.heap[g]? = some (.cells (x.c p sa sc) tLg (0, 0))) := HST.out _ h1; have HHR : Hid (Calls _ _ _ v1 _) := heard_t g p x sa sc 5 v1 HS1.out.2; clear h1) | (go_at_call 49; refine Calls.mono HHR.out ?_; rintro e v2 ⟨rfl, h2, h3⟩; have HS2 : Hid (BgS x g p sa sc w.heap.size h v2 ∧ v2.heap[g]? = some (.cells ((x.hear (5 : Nat)).c p sa sc) tLg (0, 0)) ∧ v1.grownBy v2 (some g)) := ⟨⟨⟨_, h2⟩, grown_blk h3 HS1.out.1.bx HGN.out⟩, h2, h3⟩; clear h2 h3)
      go_wp2_with fail
      refine hK.out _ _ (by first | exact HS0.out | exact HS1.out.1 | exact HS2.out.1 | assumption) ?_
      clear hK K
      intro hHeld2
      clear hHeld
      have hHeld := hHeld2
      clear hHeld2
      try simp only [Act.put, List.setIfInBounds_toArray, List.set_cons_zero, List.set_cons_succ]
      refine take_at (i := 8) 10 (v := ?_) rfl rfl (by kernel_rfl) (by kernel_rfl) (by kernel_rfl) (fun _ _ _ h => h) (by rfl) ?_ hHeld ?_
      rotate_left
      · (intro w hSw; (try dsimp only at hSw); go_simp; try with_reducible rfl)
      simp only [Act.put, List.setIfInBounds_toArray, List.set_cons_zero, List.set_cons_succ]
      refine wpAnyH_done (by kernel_rfl) ?_ _
      go_wp2
      go_ret
      exact ⟨rfl, BgOut_no HOK.out HHD.out HR.out HD.out HL1.out HS2.out.2.1 HS2.out.2.2 (Array.getElem?_eq_some_iff.1 HG.out).1⟩
    · by_cases hsn : s.n = f
      · have HNF : Hid (h.c = #[.int .u64 (G : Int), .int .u64 (ep : Int), .int .u64 (f : Int), .int .u64 (s.e : Int)]) := by
          unfold Hid; rw [HHD.out, HGG.out]; unfold Lg.newH; rw [← HKE.out, hLs]; simp [hsn]
        have HBF : Hid (bsF x.L f k = true) := by unfold Hid bsF; rw [hLs]; simp [hsn]
        have hkL : k < x.L.length := (List.getElem?_eq_some_iff.1 hLs).1
        obtain ⟨b, o, hsaE, hrg, -⟩ := HR.out.1 k hkL
        have HCE : Hid (∀ u, Below w.heap.size w u → u.cell? ⟨b, o + k * 2 + 1, none⟩ = some (.int .u64 (s.e : Int))) := fun u hu => by
          have h9 : x.L[k] = s := (List.getElem?_eq_some_iff.1 hLs).2
          rw [h9] at hrg
          exact rangeAt_below hrg hu 1 _ rfl
        have HCG : Hid (∀ u, Below w.heap.size w u → u.cell? ⟨g, 8, none⟩ = some (.slice (some ⟨b, o, none⟩) x.L.length sc)) := fun u hu => by rw [← hsaE]; exact (cells10 (below_blk hu HG.out)).2.2.2.2.2.2.2.2.1
        clear hLs hsn hrg hsaE
        go_enter Tryd.func41, Tryd.ntmps41
        go_wp2_with (go_at_call 45; refine Calls.mono (HB0.out _ (alS (Below.refl _ _) _)) ?_; rintro e u ⟨i, rfl, hbs, hb1⟩; have HBS : Hid (BsIs x.L f i) := hbs; have hi := hbs.cnt; rw [← HKE.out] at hi; subst hi; rw [HBF.out]; have HU0 : Hid (Below w.heap.size w u) := below_next (alS (Below.refl _ _) _) hb1; have hbx := below_blk hb1 (heap_alloc_new w _); have HX0 : Hid (u.heap[w.heap.size]? = _) := hbx; have hbf := (fun j => frz hbx j); obtain ⟨e0, e1, e2, e3⟩ := cells4 hbx; have hce := HCE.out u HU0.out; have hcg := HCG.out u HU0.out; clear hbs hb1 c3 hbx)
        have HU9 : Hid (Below w.heap.size w (u.setCell ⟨w.heap.size, 3, none⟩ (.int .u64 (s.e : Int)))) := HU0.out.grown (gset1 u _ 3 _) HU0.out.size (fun b e => by cases e; omega)
        have HBX9 : Hid ((u.setCell ⟨w.heap.size, 3, none⟩ (.int .u64 (s.e : Int))).heap[w.heap.size]? = some (.cells h.c tHd (0, 0))) := by unfold Hid; rw [HNF.out]; exact heap_setCell_same u _ 3 _ _ _ HX0.out
        clear hbf e0 e1 e2 e3 hce hcg HX0
        generalize (u.setCell ⟨w.heap.size, 3, none⟩ (.int .u64 (s.e : Int))) = u9 at *
        clear HU0
        have HU := HU9
        have HBX := HBX9
        have HS0 : Hid (BgS x g p sa sc w.heap.size h u9.drew) := (HSA.out u9 _ HU.out HBX.out (Chg.of_below (Below.refl _ _).drew)).1
        have HST : Hid (∀ v, DLft u9.drew p _ _ F v → _) := fun v (hv : DLft u9.drew p (runO d (hdO x.A x.Z h)).1 (n + 1) F v) => HSA.out u9.drew v HU.out.drew (below_blk (Below.refl _ _).drew HBX.out) hv.chg
        have HWH : Hid (Calls _ _ _ u9.drew _) := HWA.out u9.drew HU.out.drew
        refine wp_region_held_drew (S := (fun v => BgS x g p sa sc w.heap.size h v)) (by kernel_rfl) (by first | exact HS0.out | exact HS1.out.1 | exact HS2.out.1 | assumption) (fun hHeld => ?_)
        refine take_at (i := 0) 37 (v := ?_) rfl rfl (by kernel_rfl) (by kernel_rfl) (by kernel_rfl) (fun _ _ _ h => h) (by rfl) ?_ hHeld ?_
        rotate_left
        · (intro w hSw; (try dsimp only at hSw); go_simp; try with_reducible rfl)
        simp only [Act.put, List.setIfInBounds_toArray, List.set_cons_zero, List.set_cons_succ]
        refine take_at (i := 1) 38 (v := ?_) rfl rfl (by kernel_rfl) (by kernel_rfl) (by kernel_rfl) (fun _ _ _ h => h) (by rfl) ?_ hHeld ?_
        rotate_left
        · (intro w hSw; (try dsimp only at hSw); go_simp; try with_reducible rfl)
        simp only [Act.put, List.setIfInBounds_toArray, List.set_cons_zero, List.set_cons_succ]
        refine take_at (i := 2) 39 (v := ?_) rfl rfl (by kernel_rfl) (by kernel_rfl) (by kernel_rfl) (fun _ _ _ h => h) (by rfl) ?_ hHeld ?_
        rotate_left
        · (intro w hSw; (try dsimp only at hSw); go_simp; try with_reducible rfl)
        simp only [Act.put, List.setIfInBounds_toArray, List.set_cons_zero, List.set_cons_succ]
        refine take_at (i := 3) 40 (v := ?_) rfl rfl (by kernel_rfl) (by kernel_rfl) (by kernel_rfl) (fun _ _ _ h => h) (by rfl) ?_ hHeld ?_
        rotate_left
        · (intro w hSw; (try dsimp only at hSw); go_simp; try with_reducible rfl)
        simp only [Act.put, List.setIfInBounds_toArray, List.set_cons_zero, List.set_cons_succ]
        refine take_at (i := 4) 41 (v := plV p x.A x.Z) rfl rfl (by kernel_rfl) (by kernel_rfl) (by kernel_rfl) (fun _ _ _ h => h) (by rfl) ?_ hHeld ?_
        · (intro w hSw; refine exec_load (by rfl) ?_; exact hSw.pl)
        simp only [Act.put, List.setIfInBounds_toArray, List.set_cons_zero, List.set_cons_succ]
        refine take_at (i := 5) 42 (v := h.v) rfl rfl (by kernel_rfl) (by kernel_rfl) (by kernel_rfl) (fun _ _ _ h => h) (by rfl) ?_ hHeld ?_
        · (intro w hSw; refine exec_load (by rfl) ?_; exact hdLoad hSw.bx)
        simp only [Act.put, List.setIfInBounds_toArray, List.set_cons_zero, List.set_cons_succ]
        refine run_at (i := 6) rfl (by kernel_rfl) (by rfl) (fun K hK => ?_)
        simp only [List.getElem_toArray, List.getElem_cons_zero, List.getElem_cons_succ]
        go_simp
        first | (go_at_call 57; refine Calls.mono HWH.out ?_; rintro e v1 ⟨rfl, h1⟩; have HL1 : Hid (DLft w p _ (n + 1) F v1) := DLft.frm (HU.out.drew) h1; have HS1 : Hid (BgS x g p sa sc w.heap.size h v1 ∧ v1.heap[g]? = some (.cells (x.c p sa sc) tLg (0, 0))) := HST.out _ h1; have HHR : Hid (Calls _ _ _ v1 _) := heard_t g p x sa sc 5 v1 HS1.out.2; clear h1) | (go_at_call 49; refine Calls.mono HHR.out ?_; rintro e v2 ⟨rfl, h2, h3⟩; have HS2 : Hid (BgS x g p sa sc w.heap.size h v2 ∧ v2.heap[g]? = some (.cells ((x.hear (5 : Nat)).c p sa sc) tLg (0, 0)) ∧ v1.grownBy v2 (some g)) := ⟨⟨⟨_, h2⟩, grown_blk h3 HS1.out.1.bx HGN.out⟩, h2, h3⟩; clear h2 h3)
        go_wp2_with fail
        refine hK.out _ _ (by first | exact HS0.out | exact HS1.out.1 | exact HS2.out.1 | assumption) ?_
        clear hK K
        intro hHeld2
        clear hHeld
        have hHeld := hHeld2
        clear hHeld2
        try simp only [Act.put, List.setIfInBounds_toArray, List.set_cons_zero, List.set_cons_succ]
        refine run_at (i := 7) rfl (by kernel_rfl) (by rfl) (fun K hK => ?_)
        simp only [List.getElem_toArray, List.getElem_cons_zero, List.getElem_cons_succ]
        go_simp
        first | (go_at_call 57; refine Calls.mono HWH.out ?_; rintro e v1 ⟨rfl, h1⟩; have HL1 : Hid (DLft w p _ (n + 1) F v1) := DLft.frm (HU.out.drew) h1; have HS1 : Hid (BgS x g p sa sc w.heap.size h v1 ∧ v1.heap[g]? = some (.cells (x.c p sa sc) tLg (0, 0))) := HST.out _ h1; have HHR : Hid (Calls _ _ _ v1 _) := heard_t g p x sa sc 5 v1 HS1.out.2; clear h1) | (go_at_call 49; refine Calls.mono HHR.out ?_; rintro e v2 ⟨rfl, h2, h3⟩; have HS2 : Hid (BgS x g p sa sc w.heap.size h v2 ∧ v2.heap[g]? = some (.cells ((x.hear (5 : Nat)).c p sa sc) tLg (0, 0)) ∧ v1.grownBy v2 (some g)) := ⟨⟨⟨_, h2⟩, grown_blk h3 HS1.out.1.bx HGN.out⟩, h2, h3⟩; clear h2 h3)
        go_wp2_with fail
        refine hK.out _ _ (by first | exact HS0.out | exact HS1.out.1 | exact HS2.out.1 | assumption) ?_
        clear hK K
        intro hHeld2
        clear hHeld
        have hHeld := hHeld2
        clear hHeld2
        try simp only [Act.put, List.setIfInBounds_toArray, List.set_cons_zero, List.set_cons_succ]
        refine take_at (i := 8) 10 (v := ?_) rfl rfl (by kernel_rfl) (by kernel_rfl) (by kernel_rfl) (fun _ _ _ h => h) (by rfl) ?_ hHeld ?_
        rotate_left
        · (intro w hSw; (try dsimp only at hSw); go_simp; try with_reducible rfl)
        simp only [Act.put, List.setIfInBounds_toArray, List.set_cons_zero, List.set_cons_succ]
        refine wpAnyH_done (by kernel_rfl) ?_ _
        go_wp2
        go_ret
        exact ⟨rfl, BgOut_no HOK.out HHD.out HR.out HD.out HL1.out HS2.out.2.1 HS2.out.2.2 (Array.getElem?_eq_some_iff.1 HG.out).1⟩
      · have HNF : Hid (h.c = #[.int .u64 (G : Int), .int .u64 (ep : Int), .int .u64 (f : Int), .int .u64 (ep : Int)]) := by
          unfold Hid; rw [HHD.out, HGG.out]; unfold Lg.newH; rw [← HKE.out, hLs]; simp [hsn]
        have HBF : Hid (bsF x.L f k = false) := by unfold Hid bsF; rw [hLs]; simp [hsn]
        clear hLs hsn
        go_enter Tryd.func41, Tryd.ntmps41
        go_wp2_with (go_at_call 45; refine Calls.mono (HB0.out _ (alS (Below.refl _ _) _)) ?_; rintro e u ⟨i, rfl, hbs, hb1⟩; have HBS : Hid (BsIs x.L f i) := hbs; have hi := hbs.cnt; rw [← HKE.out] at hi; subst hi; rw [HBF.out]; have HU : Hid (Below w.heap.size w u) := below_next (alS (Below.refl _ _) _) hb1; have HBX : Hid (u.heap[w.heap.size]? = some (.cells h.c tHd (0, 0))) := (by unfold Hid; rw [HNF.out]; exact below_blk hb1 (heap_alloc_new w _)); clear hbs hb1 c3)
        have HS0 : Hid (BgS x g p sa sc w.heap.size h u.drew) := (HSA.out u _ HU.out HBX.out (Chg.of_below (Below.refl _ _).drew)).1
        have HST : Hid (∀ v, DLft u.drew p _ _ F v → _) := fun v (hv : DLft u.drew p (runO d (hdO x.A x.Z h)).1 (n + 1) F v) => HSA.out u.drew v HU.out.drew (below_blk (Below.refl _ _).drew HBX.out) hv.chg
        have HWH : Hid (Calls _ _ _ u.drew _) := HWA.out u.drew HU.out.drew
        refine wp_region_held_drew (S := (fun v => BgS x g p sa sc w.heap.size h v)) (by kernel_rfl) (by first | exact HS0.out | exact HS1.out.1 | exact HS2.out.1 | assumption) (fun hHeld => ?_)
        refine take_at (i := 0) 37 (v := ?_) rfl rfl (by kernel_rfl) (by kernel_rfl) (by kernel_rfl) (fun _ _ _ h => h) (by rfl) ?_ hHeld ?_
        rotate_left
        · (intro w hSw; (try dsimp only at hSw); go_simp; try with_reducible rfl)
        simp only [Act.put, List.setIfInBounds_toArray, List.set_cons_zero, List.set_cons_succ]
        refine take_at (i := 1) 38 (v := ?_) rfl rfl (by kernel_rfl) (by kernel_rfl) (by kernel_rfl) (fun _ _ _ h => h) (by rfl) ?_ hHeld ?_
        rotate_left
        · (intro w hSw; (try dsimp only at hSw); go_simp; try with_reducible rfl)
        simp only [Act.put, List.setIfInBounds_toArray, List.set_cons_zero, List.set_cons_succ]
        refine take_at (i := 2) 39 (v := ?_) rfl rfl (by kernel_rfl) (by kernel_rfl) (by kernel_rfl) (fun _ _ _ h => h) (by rfl) ?_ hHeld ?_
        rotate_left
        · (intro w hSw; (try dsimp only at hSw); go_simp; try with_reducible rfl)
        simp only [Act.put, List.setIfInBounds_toArray, List.set_cons_zero, List.set_cons_succ]
        refine take_at (i := 3) 40 (v := ?_) rfl rfl (by kernel_rfl) (by kernel_rfl) (by kernel_rfl) (fun _ _ _ h => h) (by rfl) ?_ hHeld ?_
        rotate_left
        · (intro w hSw; (try dsimp only at hSw); go_simp; try with_reducible rfl)
        simp only [Act.put, List.setIfInBounds_toArray, List.set_cons_zero, List.set_cons_succ]
        refine take_at (i := 4) 41 (v := plV p x.A x.Z) rfl rfl (by kernel_rfl) (by kernel_rfl) (by kernel_rfl) (fun _ _ _ h => h) (by rfl) ?_ hHeld ?_
        · (intro w hSw; refine exec_load (by rfl) ?_; exact hSw.pl)
        simp only [Act.put, List.setIfInBounds_toArray, List.set_cons_zero, List.set_cons_succ]
        refine take_at (i := 5) 42 (v := h.v) rfl rfl (by kernel_rfl) (by kernel_rfl) (by kernel_rfl) (fun _ _ _ h => h) (by rfl) ?_ hHeld ?_
        · (intro w hSw; refine exec_load (by rfl) ?_; exact hdLoad hSw.bx)
        simp only [Act.put, List.setIfInBounds_toArray, List.set_cons_zero, List.set_cons_succ]
        refine run_at (i := 6) rfl (by kernel_rfl) (by rfl) (fun K hK => ?_)
        simp only [List.getElem_toArray, List.getElem_cons_zero, List.getElem_cons_succ]
        go_simp
        first | (go_at_call 57; refine Calls.mono HWH.out ?_; rintro e v1 ⟨rfl, h1⟩; have HL1 : Hid (DLft w p _ (n + 1) F v1) := DLft.frm (HU.out.drew) h1; have HS1 : Hid (BgS x g p sa sc w.heap.size h v1 ∧ v1.heap[g]? = some (.cells (x.c p sa sc) tLg (0, 0))) := HST.out _ h1; have HHR : Hid (Calls _ _ _ v1 _) := heard_t g p x sa sc 5 v1 HS1.out.2; clear h1) | (go_at_call 49; refine Calls.mono HHR.out ?_; rintro e v2 ⟨rfl, h2, h3⟩; have HS2 : Hid (BgS x g p sa sc w.heap.size h v2 ∧ v2.heap[g]? = some (.cells ((x.hear (5 : Nat)).c p sa sc) tLg (0, 0)) ∧ v1.grownBy v2 (some g)) := ⟨⟨⟨_, h2⟩, grown_blk h3 HS1.out.1.bx HGN.out⟩, h2, h3⟩; clear h2 h3)
        go_wp2_with fail
        refine hK.out _ _ (by first | exact HS0.out | exact HS1.out.1 | exact HS2.out.1 | assumption) ?_
        clear hK K
        intro hHeld2
        clear hHeld
        have hHeld := hHeld2
        clear hHeld2
        try simp only [Act.put, List.setIfInBounds_toArray, List.set_cons_zero, List.set_cons_succ]
        refine run_at (i := 7) rfl (by kernel_rfl) (by rfl) (fun K hK => ?_)
        simp only [List.getElem_toArray, List.getElem_cons_zero, List.getElem_cons_succ]
        go_simp
        first | (go_at_call 57; refine Calls.mono HWH.out ?_; rintro e v1 ⟨rfl, h1⟩; have HL1 : Hid (DLft w p _ (n + 1) F v1) := DLft.frm (HU.out.drew) h1; have HS1 : Hid (BgS x g p sa sc w.heap.size h v1 ∧ v1.heap[g]? = some (.cells (x.c p sa sc) tLg (0, 0))) := HST.out _ h1; have HHR : Hid (Calls _ _ _ v1 _) := heard_t g p x sa sc 5 v1 HS1.out.2; clear h1) | (go_at_call 49; refine Calls.mono HHR.out ?_; rintro e v2 ⟨rfl, h2, h3⟩; have HS2 : Hid (BgS x g p sa sc w.heap.size h v2 ∧ v2.heap[g]? = some (.cells ((x.hear (5 : Nat)).c p sa sc) tLg (0, 0)) ∧ v1.grownBy v2 (some g)) := ⟨⟨⟨_, h2⟩, grown_blk h3 HS1.out.1.bx HGN.out⟩, h2, h3⟩; clear h2 h3)
        go_wp2_with fail
        refine hK.out _ _ (by first | exact HS0.out | exact HS1.out.1 | exact HS2.out.1 | assumption) ?_
        clear hK K
        intro hHeld2
        clear hHeld
        have hHeld := hHeld2
        clear hHeld2
        try simp only [Act.put, List.setIfInBounds_toArray, List.set_cons_zero, List.set_cons_succ]
        refine take_at (i := 8) 10 (v := ?_) rfl rfl (by kernel_rfl) (by kernel_rfl) (by kernel_rfl) (fun _ _ _ h => h) (by rfl) ?_ hHeld ?_
        rotate_left
        · (intro w hSw; (try dsimp only at hSw); go_simp; try with_reducible rfl)
        simp only [Act.put, List.setIfInBounds_toArray, List.set_cons_zero, List.set_cons_succ]
        refine wpAnyH_done (by kernel_rfl) ?_ _
        go_wp2
        go_ret
        exact ⟨rfl, BgOut_no HOK.out HHD.out HR.out HD.out HL1.out HS2.out.2.1 HS2.out.2.2 (Array.getElem?_eq_some_iff.1 HG.out).1⟩
  · change Calls _ _ _ _ fun e w' => e = .returned (.int .i64 0) ∧ _
    have HWA : Hid (∀ u, Below w.heap.size w u → Calls _ _ _ u fun e w' => e = .returned (.int .i64 0) ∧ _) := HWA
    rcases hLs : x.L[k]? with _ | s
    · have HNF : Hid (h.c = #[.int .u64 (G : Int), .int .u64 (ep : Int), .int .u64 (f : Int), .int .u64 (ep : Int)]) := by
        unfold Hid; rw [HHD.out, HGG.out]; unfold Lg.newH; rw [← HKE.out, hLs]
      have HBF : Hid (bsF x.L f k = false) := by unfold Hid bsF; rw [hLs]
      clear hLs
      go_enter Tryd.func41, Tryd.ntmps41
      go_wp2_with (go_at_call 45; refine Calls.mono (HB0.out _ (alS (Below.refl _ _) _)) ?_; rintro e u ⟨i, rfl, hbs, hb1⟩; have HBS : Hid (BsIs x.L f i) := hbs; have hi := hbs.cnt; rw [← HKE.out] at hi; subst hi; rw [HBF.out]; have HU : Hid (Below w.heap.size w u) := below_next (alS (Below.refl _ _) _) hb1; have HBX : Hid (u.heap[w.heap.size]? = some (.cells h.c tHd (0, 0))) := (by unfold Hid; rw [HNF.out]; exact below_blk hb1 (heap_alloc_new w _)); clear hbs hb1 c3)
      have HS0 : Hid (BgS x g p sa sc w.heap.size h u.drew) := (HSA.out u _ HU.out HBX.out (Chg.of_below (Below.refl _ _).drew)).1
      have HST : Hid (∀ v, DLft u.drew p _ _ F v → _) := fun v (hv : DLft u.drew p (runO d (hdO x.A x.Z h)).1 (n + 1) F v) => HSA.out u.drew v HU.out.drew (below_blk (Below.refl _ _).drew HBX.out) hv.chg
      have HWH : Hid (Calls _ _ _ u.drew _) := HWA.out u.drew HU.out.drew
      refine wp_region_held_drew (S := (fun v => BgS x g p sa sc w.heap.size h v)) (by kernel_rfl) (by first | exact HS0.out | exact HS1.out.1 | exact HS2.out.1 | assumption) (fun hHeld => ?_)
      refine take_at (i := 0) 37 (v := ?_) rfl rfl (by kernel_rfl) (by kernel_rfl) (by kernel_rfl) (fun _ _ _ h => h) (by rfl) ?_ hHeld ?_
      rotate_left
      · (intro w hSw; (try dsimp only at hSw); go_simp; try with_reducible rfl)
      simp only [Act.put, List.setIfInBounds_toArray, List.set_cons_zero, List.set_cons_succ]
      refine take_at (i := 1) 38 (v := ?_) rfl rfl (by kernel_rfl) (by kernel_rfl) (by kernel_rfl) (fun _ _ _ h => h) (by rfl) ?_ hHeld ?_
      rotate_left
      · (intro w hSw; (try dsimp only at hSw); go_simp; try with_reducible rfl)
      simp only [Act.put, List.setIfInBounds_toArray, List.set_cons_zero, List.set_cons_succ]
      refine take_at (i := 2) 39 (v := ?_) rfl rfl (by kernel_rfl) (by kernel_rfl) (by kernel_rfl) (fun _ _ _ h => h) (by rfl) ?_ hHeld ?_
      rotate_left
      · (intro w hSw; (try dsimp only at hSw); go_simp; try with_reducible rfl)
      simp only [Act.put, List.setIfInBounds_toArray, List.set_cons_zero, List.set_cons_succ]
      refine take_at (i := 3) 40 (v := ?_) rfl rfl (by kernel_rfl) (by kernel_rfl) (by kernel_rfl) (fun _ _ _ h => h) (by rfl) ?_ hHeld ?_
      rotate_left
      · (intro w hSw; (try dsimp only at hSw); go_simp; try with_reducible rfl)
      simp only [Act.put, List.setIfInBounds_toArray, List.set_cons_zero, List.set_cons_succ]
      refine take_at (i := 4) 41 (v := plV p x.A x.Z) rfl rfl (by kernel_rfl) (by kernel_rfl) (by kernel_rfl) (fun _ _ _ h => h) (by rfl) ?_ hHeld ?_
      · (intro w hSw; refine exec_load (by rfl) ?_; exact hSw.pl)
      simp only [Act.put, List.setIfInBounds_toArray, List.set_cons_zero, List.set_cons_succ]
      refine take_at (i := 5) 42 (v := h.v) rfl rfl (by kernel_rfl) (by kernel_rfl) (by kernel_rfl) (fun _ _ _ h => h) (by rfl) ?_ hHeld ?_
      · (intro w hSw; refine exec_load (by rfl) ?_; exact hdLoad hSw.bx)
      simp only [Act.put, List.setIfInBounds_toArray, List.set_cons_zero, List.set_cons_succ]
      refine run_at (i := 6) rfl (by kernel_rfl) (by rfl) (fun K hK => ?_)
      simp only [List.getElem_toArray, List.getElem_cons_zero, List.getElem_cons_succ]
      go_simp
      first | (go_at_call 57; refine Calls.mono HWH.out ?_; rintro e v1 ⟨rfl, h1⟩; have HL1 : Hid (DLft w p _ (n + 1) F v1) := DLft.frm (HU.out.drew) h1; have HS1 : Hid (BgS x g p sa sc w.heap.size h v1 ∧ v1.heap[g]? = some (.cells (x.c p sa sc) tLg (0, 0))) := HST.out _ h1; have HHR : Hid (Calls _ _ _ v1 _) := heard_t g p x sa sc 0 v1 HS1.out.2; clear h1) | (go_at_call 49; refine Calls.mono HHR.out ?_; rintro e v2 ⟨rfl, h2, h3⟩; have HS2 : Hid (BgS x g p sa sc w.heap.size h v2 ∧ v2.heap[g]? = some (.cells ((x.hear (0 : Nat)).c p sa sc) tLg (0, 0)) ∧ v1.grownBy v2 (some g)) := ⟨⟨⟨_, h2⟩, grown_blk h3 HS1.out.1.bx HGN.out⟩, h2, h3⟩; clear h2 h3)
      go_wp2_with fail
      refine hK.out _ _ (by first | exact HS0.out | exact HS1.out.1 | exact HS2.out.1 | assumption) ?_
      clear hK K
      intro hHeld2
      clear hHeld
      have hHeld := hHeld2
      clear hHeld2
      try simp only [Act.put, List.setIfInBounds_toArray, List.set_cons_zero, List.set_cons_succ]
      refine run_at (i := 7) rfl (by kernel_rfl) (by rfl) (fun K hK => ?_)
      simp only [List.getElem_toArray, List.getElem_cons_zero, List.getElem_cons_succ]
      go_simp
      first | (go_at_call 57; refine Calls.mono HWH.out ?_; rintro e v1 ⟨rfl, h1⟩; have HL1 : Hid (DLft w p _ (n + 1) F v1) := DLft.frm (HU.out.drew) h1; have HS1 : Hid (BgS x g p sa sc w.heap.size h v1 ∧ v1.heap[g]? = some (.cells (x.c p sa sc) tLg (0, 0))) := HST.out _ h1; have HHR : Hid (Calls _ _ _ v1 _) := heard_t g p x sa sc 0 v1 HS1.out.2; clear h1) | (go_at_call 49; refine Calls.mono HHR.out ?_; rintro e v2 ⟨rfl, h2, h3⟩; have HS2 : Hid (BgS x g p sa sc w.heap.size h v2 ∧ v2.heap[g]? = some (.cells ((x.hear (0 : Nat)).c p sa sc) tLg (0, 0)) ∧ v1.grownBy v2 (some g)) := ⟨⟨⟨_, h2⟩, grown_blk h3 HS1.out.1.bx HGN.out⟩, h2, h3⟩; clear h2 h3)
      go_wp2_with fail
      refine hK.out _ _ (by first | exact HS0.out | exact HS1.out.1 | exact HS2.out.1 | assumption) ?_
      clear hK K
      intro hHeld2
      clear hHeld
      have hHeld := hHeld2
      clear hHeld2
      try simp only [Act.put, List.setIfInBounds_toArray, List.set_cons_zero, List.set_cons_succ]
      refine take_at (i := 8) 10 (v := ?_) rfl rfl (by kernel_rfl) (by kernel_rfl) (by kernel_rfl) (fun _ _ _ h => h) (by rfl) ?_ hHeld ?_
      rotate_left
      · (intro w hSw; (try dsimp only at hSw); go_simp; try with_reducible rfl)
      simp only [Act.put, List.setIfInBounds_toArray, List.set_cons_zero, List.set_cons_succ]
      refine wpAnyH_done (by kernel_rfl) ?_ _
      go_wp2
      have hC8 : v2.drew.cell? ⟨g, 8, none⟩ = some (.slice sa x.L.length sc) := (cells10 (below_blk (Below.refl _ _).drew HS2.out.2.1)).2.2.2.2.2.2.2.2.1
      have HC8 : Hid (v2.drew.cell? ⟨g, 8, none⟩ = some (.slice sa x.L.length sc)) := hC8
      have HG2 : Hid (v2.drew.heap[g]? = some (.cells (x.c p sa sc) tLg (0, 0))) := below_blk (Below.refl _ _).drew HS2.out.2.1
      have HH2 : Hid (v2.drew.heap[w.heap.size]? = some (.cells h.c tHd (0, 0))) := below_blk (Below.refl _ _).drew HS2.out.1.bx
      have hiL : i ≤ x.L.length := HBS.out.le
      have HDL : Hid (x.L.length - i = (x.L.drop i).length) := (List.length_drop ..).symm
      clear hC8 hHeld
      refine wp_region_held_drew (S := (fun v => v.heap[w.heap.size]? = some (.cells h.c tHd (0, 0)))) (by kernel_rfl) (by first | exact HH2.out | exact HH3.out | exact HH4.out | assumption) (fun hHeld => ?_)
      refine take_at (i := 0) 48 (v := ?_) rfl rfl (by kernel_rfl) (by kernel_rfl) (by kernel_rfl) (fun _ _ _ h => h) (by rfl) ?_ hHeld ?_
      rotate_left
      · (intro w hSw; (try dsimp only at hSw); go_simp; try with_reducible rfl)
      simp only [Act.put, List.setIfInBounds_toArray, List.set_cons_zero, List.set_cons_succ]
      refine take_at (i := 1) 49 (v := ?_) rfl rfl (by kernel_rfl) (by kernel_rfl) (by kernel_rfl) (fun _ _ _ h => h) (by rfl) ?_ hHeld ?_
      rotate_left
      · (intro w hSw; (try dsimp only at hSw); go_simp; try with_reducible rfl)
      simp only [Act.put, List.setIfInBounds_toArray, List.set_cons_zero, List.set_cons_succ]
      refine take_at (i := 2) 50 (v := h.v) rfl rfl (by kernel_rfl) (by kernel_rfl) (by kernel_rfl) (fun _ _ _ h => h) (by rfl) ?_ hHeld ?_
      · (intro w hSw; refine exec_load (by rfl) ?_; exact hdLoad hSw)
      simp only [Act.put, List.setIfInBounds_toArray, List.set_cons_zero, List.set_cons_succ]
      refine take_at (i := 3) 51 (v := ?_) rfl rfl (by kernel_rfl) (by kernel_rfl) (by kernel_rfl) (fun _ _ _ h => h) (by rfl) ?_ hHeld ?_
      rotate_left
      · (intro w hSw; (try dsimp only at hSw); go_simp; try with_reducible rfl)
      simp only [Act.put, List.setIfInBounds_toArray, List.set_cons_zero, List.set_cons_succ]
      refine take_at (i := 4) 52 (v := ?_) rfl rfl (by kernel_rfl) (by kernel_rfl) (by kernel_rfl) (fun _ _ _ h => h) (by rfl) ?_ hHeld ?_
      rotate_left
      · (intro w hSw; (try dsimp only at hSw); go_simp; try with_reducible rfl)
      simp only [Act.put, List.setIfInBounds_toArray, List.set_cons_zero, List.set_cons_succ]
      refine take_at (i := 5) 53 (v := ?_) rfl rfl (by kernel_rfl) (by kernel_rfl) (by kernel_rfl) (fun _ _ _ h => h) (by rfl) ?_ hHeld ?_
      rotate_left
      · (intro w hSw; (try dsimp only at hSw); go_simp; try with_reducible rfl)
      simp only [Act.put, List.setIfInBounds_toArray, List.set_cons_zero, List.set_cons_succ]
      refine take_at (i := 7) 55 (v := ?_) rfl rfl (by kernel_rfl) (by kernel_rfl) (by kernel_rfl) (fun _ _ _ h => h) (by rfl) ?_ hHeld ?_
      rotate_left
      · (intro w hSw; (try dsimp only at hSw); go_simp; try with_reducible rfl)
      simp only [Act.put, List.setIfInBounds_toArray, List.set_cons_zero, List.set_cons_succ]
      refine val_at (i := 6) 54 (v := .slice sa x.L.length sc) rfl rfl (by kernel_rfl) (by rfl) ?_ ?_ ?_
      · (have hc9 := HC8.out; go_simp; try with_reducible rfl)
      · (first | exact HH2.out | exact HH3.out | exact HH4.out | assumption)
      intro hHeld2
      clear hHeld
      have hHeld := hHeld2
      clear hHeld2
      simp only [Act.put, List.setIfInBounds_toArray, List.set_cons_zero, List.set_cons_succ]
      refine take_at (i := 8) 56 (v := .slice (SB sa sc i) (x.L.length - i) (sc - i)) rfl rfl (by kernel_rfl) (by kernel_rfl) (by kernel_rfl) (fun _ _ _ h => h) (by rfl) ?_ hHeld ?_
      · (intro w hSw; go_simp; first | rfl | (unfold SB; rfl))
      simp only [Act.put, List.setIfInBounds_toArray, List.set_cons_zero, List.set_cons_succ]
      refine take_at (i := 9) 57 (v := ?_) rfl rfl (by kernel_rfl) (by kernel_rfl) (by kernel_rfl) (fun _ _ _ h => h) (by rfl) ?_ hHeld ?_
      rotate_left
      · (intro w hSw; (try dsimp only at hSw); go_simp; try with_reducible rfl)
      simp only [Act.put, List.setIfInBounds_toArray, List.set_cons_zero, List.set_cons_succ]
      refine take_at (i := 10) 58 (v := ?_) rfl rfl (by kernel_rfl) (by kernel_rfl) (by kernel_rfl) (fun _ _ _ h => h) (by rfl) ?_ hHeld ?_
      rotate_left
      · (intro w hSw; (try dsimp only at hSw); go_simp; try with_reducible rfl)
      simp only [Act.put, List.setIfInBounds_toArray, List.set_cons_zero, List.set_cons_succ]
      refine run_at (i := 11) rfl (by kernel_rfl) (by rfl) (fun K hK => ?_)
      simp only [List.getElem_toArray, List.getElem_cons_zero, List.getElem_cons_succ]
      (refine wpo_storeLH _ _ rfl g p x sa sc h (by rfl) (by rfl) HG2.out ?_; intro z3 hz3 hg3; have HG3 : Hid (z3.heap[g]? = _) := hz3; have HGR3 : Hid _ := hg3; have HH3 : Hid (z3.heap[w.heap.size]? = some (.cells h.c tHd (0, 0))) := grown_blk hg3 HH2.out HGN.out; clear hz3 hg3)
      refine hK.out _ _ (by first | exact HH2.out | exact HH3.out | exact HH4.out | assumption) ?_
      clear hK K
      intro hHeld2
      clear hHeld
      have hHeld := hHeld2
      clear hHeld2
      try simp only [Act.put, List.setIfInBounds_toArray, List.set_cons_zero, List.set_cons_succ]
      refine take_at (i := 12) 59 (v := ?_) rfl rfl (by kernel_rfl) (by kernel_rfl) (by kernel_rfl) (fun _ _ _ h => h) (by rfl) ?_ hHeld ?_
      rotate_left
      · (intro w hSw; (try dsimp only at hSw); go_simp; try with_reducible rfl)
      simp only [Act.put, List.setIfInBounds_toArray, List.set_cons_zero, List.set_cons_succ]
      refine take_at (i := 13) 60 (v := ?_) rfl rfl (by kernel_rfl) (by kernel_rfl) (by kernel_rfl) (fun _ _ _ h => h) (by rfl) ?_ hHeld ?_
      rotate_left
      · (intro w hSw; (try dsimp only at hSw); go_simp; try with_reducible rfl)
      simp only [Act.put, List.setIfInBounds_toArray, List.set_cons_zero, List.set_cons_succ]
      refine run_at (i := 14) rfl (by kernel_rfl) (by rfl) (fun K hK => ?_)
      simp only [List.getElem_toArray, List.getElem_cons_zero, List.getElem_cons_succ]
      (refine wpo_storeLS _ _ rfl g p _ sa _ sc _ (x.L.drop i) _ HDL.out (by rfl) (by rfl) HG3.out ?_; intro z4 hz4 hg4; have HG4 : Hid (z4.heap[g]? = _) := hz4; have HGR4 : Hid _ := hg4; have HH4 : Hid (z4.heap[w.heap.size]? = some (.cells h.c tHd (0, 0))) := grown_blk hg4 HH3.out HGN.out; clear hz4 hg4)
      refine hK.out _ _ (by first | exact HH2.out | exact HH3.out | exact HH4.out | assumption) ?_
      clear hK K
      intro hHeld2
      clear hHeld
      have hHeld := hHeld2
      clear hHeld2
      try simp only [Act.put, List.setIfInBounds_toArray, List.set_cons_zero, List.set_cons_succ]
      refine wpAnyH_done (by kernel_rfl) ?_ _
      go_wp2
      go_ret
      exact ⟨rfl, BgOut_yes HOK.out HHD.out HKE.out HSC.out HR.out HD.out HL1.out HS2.out.2.2 (HGR3.out) HG4.out HGR4.out (Array.getElem?_eq_some_iff.1 HG.out).1⟩
    · by_cases hsn : s.n = f
      · have HNF : Hid (h.c = #[.int .u64 (G : Int), .int .u64 (ep : Int), .int .u64 (f : Int), .int .u64 (s.e : Int)]) := by
          unfold Hid; rw [HHD.out, HGG.out]; unfold Lg.newH; rw [← HKE.out, hLs]; simp [hsn]
        have HBF : Hid (bsF x.L f k = true) := by unfold Hid bsF; rw [hLs]; simp [hsn]
        have hkL : k < x.L.length := (List.getElem?_eq_some_iff.1 hLs).1
        obtain ⟨b, o, hsaE, hrg, -⟩ := HR.out.1 k hkL
        have HCE : Hid (∀ u, Below w.heap.size w u → u.cell? ⟨b, o + k * 2 + 1, none⟩ = some (.int .u64 (s.e : Int))) := fun u hu => by
          have h9 : x.L[k] = s := (List.getElem?_eq_some_iff.1 hLs).2
          rw [h9] at hrg
          exact rangeAt_below hrg hu 1 _ rfl
        have HCG : Hid (∀ u, Below w.heap.size w u → u.cell? ⟨g, 8, none⟩ = some (.slice (some ⟨b, o, none⟩) x.L.length sc)) := fun u hu => by rw [← hsaE]; exact (cells10 (below_blk hu HG.out)).2.2.2.2.2.2.2.2.1
        clear hLs hsn hrg hsaE
        go_enter Tryd.func41, Tryd.ntmps41
        go_wp2_with (go_at_call 45; refine Calls.mono (HB0.out _ (alS (Below.refl _ _) _)) ?_; rintro e u ⟨i, rfl, hbs, hb1⟩; have HBS : Hid (BsIs x.L f i) := hbs; have hi := hbs.cnt; rw [← HKE.out] at hi; subst hi; rw [HBF.out]; have HU0 : Hid (Below w.heap.size w u) := below_next (alS (Below.refl _ _) _) hb1; have hbx := below_blk hb1 (heap_alloc_new w _); have HX0 : Hid (u.heap[w.heap.size]? = _) := hbx; have hbf := (fun j => frz hbx j); obtain ⟨e0, e1, e2, e3⟩ := cells4 hbx; have hce := HCE.out u HU0.out; have hcg := HCG.out u HU0.out; clear hbs hb1 c3 hbx)
        have HU9 : Hid (Below w.heap.size w (u.setCell ⟨w.heap.size, 3, none⟩ (.int .u64 (s.e : Int)))) := HU0.out.grown (gset1 u _ 3 _) HU0.out.size (fun b e => by cases e; omega)
        have HBX9 : Hid ((u.setCell ⟨w.heap.size, 3, none⟩ (.int .u64 (s.e : Int))).heap[w.heap.size]? = some (.cells h.c tHd (0, 0))) := by unfold Hid; rw [HNF.out]; exact heap_setCell_same u _ 3 _ _ _ HX0.out
        clear hbf e0 e1 e2 e3 hce hcg HX0
        generalize (u.setCell ⟨w.heap.size, 3, none⟩ (.int .u64 (s.e : Int))) = u9 at *
        clear HU0
        have HU := HU9
        have HBX := HBX9
        have HS0 : Hid (BgS x g p sa sc w.heap.size h u9.drew) := (HSA.out u9 _ HU.out HBX.out (Chg.of_below (Below.refl _ _).drew)).1
        have HST : Hid (∀ v, DLft u9.drew p _ _ F v → _) := fun v (hv : DLft u9.drew p (runO d (hdO x.A x.Z h)).1 (n + 1) F v) => HSA.out u9.drew v HU.out.drew (below_blk (Below.refl _ _).drew HBX.out) hv.chg
        have HWH : Hid (Calls _ _ _ u9.drew _) := HWA.out u9.drew HU.out.drew
        refine wp_region_held_drew (S := (fun v => BgS x g p sa sc w.heap.size h v)) (by kernel_rfl) (by first | exact HS0.out | exact HS1.out.1 | exact HS2.out.1 | assumption) (fun hHeld => ?_)
        refine take_at (i := 0) 37 (v := ?_) rfl rfl (by kernel_rfl) (by kernel_rfl) (by kernel_rfl) (fun _ _ _ h => h) (by rfl) ?_ hHeld ?_
        rotate_left
        · (intro w hSw; (try dsimp only at hSw); go_simp; try with_reducible rfl)
        simp only [Act.put, List.setIfInBounds_toArray, List.set_cons_zero, List.set_cons_succ]
        refine take_at (i := 1) 38 (v := ?_) rfl rfl (by kernel_rfl) (by kernel_rfl) (by kernel_rfl) (fun _ _ _ h => h) (by rfl) ?_ hHeld ?_
        rotate_left
        · (intro w hSw; (try dsimp only at hSw); go_simp; try with_reducible rfl)
        simp only [Act.put, List.setIfInBounds_toArray, List.set_cons_zero, List.set_cons_succ]
        refine take_at (i := 2) 39 (v := ?_) rfl rfl (by kernel_rfl) (by kernel_rfl) (by kernel_rfl) (fun _ _ _ h => h) (by rfl) ?_ hHeld ?_
        rotate_left
        · (intro w hSw; (try dsimp only at hSw); go_simp; try with_reducible rfl)
        simp only [Act.put, List.setIfInBounds_toArray, List.set_cons_zero, List.set_cons_succ]
        refine take_at (i := 3) 40 (v := ?_) rfl rfl (by kernel_rfl) (by kernel_rfl) (by kernel_rfl) (fun _ _ _ h => h) (by rfl) ?_ hHeld ?_
        rotate_left
        · (intro w hSw; (try dsimp only at hSw); go_simp; try with_reducible rfl)
        simp only [Act.put, List.setIfInBounds_toArray, List.set_cons_zero, List.set_cons_succ]
        refine take_at (i := 4) 41 (v := plV p x.A x.Z) rfl rfl (by kernel_rfl) (by kernel_rfl) (by kernel_rfl) (fun _ _ _ h => h) (by rfl) ?_ hHeld ?_
        · (intro w hSw; refine exec_load (by rfl) ?_; exact hSw.pl)
        simp only [Act.put, List.setIfInBounds_toArray, List.set_cons_zero, List.set_cons_succ]
        refine take_at (i := 5) 42 (v := h.v) rfl rfl (by kernel_rfl) (by kernel_rfl) (by kernel_rfl) (fun _ _ _ h => h) (by rfl) ?_ hHeld ?_
        · (intro w hSw; refine exec_load (by rfl) ?_; exact hdLoad hSw.bx)
        simp only [Act.put, List.setIfInBounds_toArray, List.set_cons_zero, List.set_cons_succ]
        refine run_at (i := 6) rfl (by kernel_rfl) (by rfl) (fun K hK => ?_)
        simp only [List.getElem_toArray, List.getElem_cons_zero, List.getElem_cons_succ]
        go_simp
        first | (go_at_call 57; refine Calls.mono HWH.out ?_; rintro e v1 ⟨rfl, h1⟩; have HL1 : Hid (DLft w p _ (n + 1) F v1) := DLft.frm (HU.out.drew) h1; have HS1 : Hid (BgS x g p sa sc w.heap.size h v1 ∧ v1.heap[g]? = some (.cells (x.c p sa sc) tLg (0, 0))) := HST.out _ h1; have HHR : Hid (Calls _ _ _ v1 _) := heard_t g p x sa sc 0 v1 HS1.out.2; clear h1) | (go_at_call 49; refine Calls.mono HHR.out ?_; rintro e v2 ⟨rfl, h2, h3⟩; have HS2 : Hid (BgS x g p sa sc w.heap.size h v2 ∧ v2.heap[g]? = some (.cells ((x.hear (0 : Nat)).c p sa sc) tLg (0, 0)) ∧ v1.grownBy v2 (some g)) := ⟨⟨⟨_, h2⟩, grown_blk h3 HS1.out.1.bx HGN.out⟩, h2, h3⟩; clear h2 h3)
        go_wp2_with fail
        refine hK.out _ _ (by first | exact HS0.out | exact HS1.out.1 | exact HS2.out.1 | assumption) ?_
        clear hK K
        intro hHeld2
        clear hHeld
        have hHeld := hHeld2
        clear hHeld2
        try simp only [Act.put, List.setIfInBounds_toArray, List.set_cons_zero, List.set_cons_succ]
        refine run_at (i := 7) rfl (by kernel_rfl) (by rfl) (fun K hK => ?_)
        simp only [List.getElem_toArray, List.getElem_cons_zero, List.getElem_cons_succ]
        go_simp
        first | (go_at_call 57; refine Calls.mono HWH.out ?_; rintro e v1 ⟨rfl, h1⟩; have HL1 : Hid (DLft w p _ (n + 1) F v1) := DLft.frm (HU.out.drew) h1; have HS1 : Hid (BgS x g p sa sc w.heap.size h v1 ∧ v1.heap[g]? = some (.cells (x.c p sa sc) tLg (0, 0))) := HST.out _ h1; have HHR : Hid (Calls _ _ _ v1 _) := heard_t g p x sa sc 0 v1 HS1.out.2; clear h1) | (go_at_call 49; refine Calls.mono HHR.out ?_; rintro e v2 ⟨rfl, h2, h3⟩; have HS2 : Hid (BgS x g p sa sc w.heap.size h v2 ∧ v2.heap[g]? = some (.cells ((x.hear (0 : Nat)).c p sa sc) tLg (0, 0)) ∧ v1.grownBy v2 (some g)) := ⟨⟨⟨_, h2⟩, grown_blk h3 HS1.out.1.bx HGN.out⟩, h2, h3⟩; clear h2 h3)
        go_wp2_with fail
        refine hK.out _ _ (by first | exact HS0.out | exact HS1.out.1 | exact HS2.out.1 | assumption) ?_
        clear hK K
        intro hHeld2
        clear hHeld
        have hHeld := hHeld2
        clear hHeld2
        try simp only [Act.put, List.setIfInBounds_toArray, List.set_cons_zero, List.set_cons_succ]
        refine take_at (i := 8) 10 (v := ?_) rfl rfl (by kernel_rfl) (by kernel_rfl) (by kernel_rfl) (fun _ _ _ h => h) (by rfl) ?_ hHeld ?_
        rotate_left
        · (intro w hSw; (try dsimp only at hSw); go_simp; try with_reducible rfl)
        simp only [Act.put, List.setIfInBounds_toArray, List.set_cons_zero, List.set_cons_succ]
        refine wpAnyH_done (by kernel_rfl) ?_ _
        go_wp2
        have hC8 : v2.drew.cell? ⟨g, 8, none⟩ = some (.slice sa x.L.length sc) := (cells10 (below_blk (Below.refl _ _).drew HS2.out.2.1)).2.2.2.2.2.2.2.2.1
        have HC8 : Hid (v2.drew.cell? ⟨g, 8, none⟩ = some (.slice sa x.L.length sc)) := hC8
        have HG2 : Hid (v2.drew.heap[g]? = some (.cells (x.c p sa sc) tLg (0, 0))) := below_blk (Below.refl _ _).drew HS2.out.2.1
        have HH2 : Hid (v2.drew.heap[w.heap.size]? = some (.cells h.c tHd (0, 0))) := below_blk (Below.refl _ _).drew HS2.out.1.bx
        have hiL : i ≤ x.L.length := HBS.out.le
        have HDL : Hid (x.L.length - i = (x.L.drop i).length) := (List.length_drop ..).symm
        clear hC8 hHeld
        refine wp_region_held_drew (S := (fun v => v.heap[w.heap.size]? = some (.cells h.c tHd (0, 0)))) (by kernel_rfl) (by first | exact HH2.out | exact HH3.out | exact HH4.out | assumption) (fun hHeld => ?_)
        refine take_at (i := 0) 48 (v := ?_) rfl rfl (by kernel_rfl) (by kernel_rfl) (by kernel_rfl) (fun _ _ _ h => h) (by rfl) ?_ hHeld ?_
        rotate_left
        · (intro w hSw; (try dsimp only at hSw); go_simp; try with_reducible rfl)
        simp only [Act.put, List.setIfInBounds_toArray, List.set_cons_zero, List.set_cons_succ]
        refine take_at (i := 1) 49 (v := ?_) rfl rfl (by kernel_rfl) (by kernel_rfl) (by kernel_rfl) (fun _ _ _ h => h) (by rfl) ?_ hHeld ?_
        rotate_left
        · (intro w hSw; (try dsimp only at hSw); go_simp; try with_reducible rfl)
        simp only [Act.put, List.setIfInBounds_toArray, List.set_cons_zero, List.set_cons_succ]
        refine take_at (i := 2) 50 (v := h.v) rfl rfl (by kernel_rfl) (by kernel_rfl) (by kernel_rfl) (fun _ _ _ h => h) (by rfl) ?_ hHeld ?_
        · (intro w hSw; refine exec_load (by rfl) ?_; exact hdLoad hSw)
        simp only [Act.put, List.setIfInBounds_toArray, List.set_cons_zero, List.set_cons_succ]
        refine take_at (i := 3) 51 (v := ?_) rfl rfl (by kernel_rfl) (by kernel_rfl) (by kernel_rfl) (fun _ _ _ h => h) (by rfl) ?_ hHeld ?_
        rotate_left
        · (intro w hSw; (try dsimp only at hSw); go_simp; try with_reducible rfl)
        simp only [Act.put, List.setIfInBounds_toArray, List.set_cons_zero, List.set_cons_succ]
        refine take_at (i := 4) 52 (v := ?_) rfl rfl (by kernel_rfl) (by kernel_rfl) (by kernel_rfl) (fun _ _ _ h => h) (by rfl) ?_ hHeld ?_
        rotate_left
        · (intro w hSw; (try dsimp only at hSw); go_simp; try with_reducible rfl)
        simp only [Act.put, List.setIfInBounds_toArray, List.set_cons_zero, List.set_cons_succ]
        refine take_at (i := 5) 53 (v := ?_) rfl rfl (by kernel_rfl) (by kernel_rfl) (by kernel_rfl) (fun _ _ _ h => h) (by rfl) ?_ hHeld ?_
        rotate_left
        · (intro w hSw; (try dsimp only at hSw); go_simp; try with_reducible rfl)
        simp only [Act.put, List.setIfInBounds_toArray, List.set_cons_zero, List.set_cons_succ]
        refine take_at (i := 7) 55 (v := ?_) rfl rfl (by kernel_rfl) (by kernel_rfl) (by kernel_rfl) (fun _ _ _ h => h) (by rfl) ?_ hHeld ?_
        rotate_left
        · (intro w hSw; (try dsimp only at hSw); go_simp; try with_reducible rfl)
        simp only [Act.put, List.setIfInBounds_toArray, List.set_cons_zero, List.set_cons_succ]
        refine val_at (i := 6) 54 (v := .slice sa x.L.length sc) rfl rfl (by kernel_rfl) (by rfl) ?_ ?_ ?_
        · (have hc9 := HC8.out; go_simp; try with_reducible rfl)
        · (first | exact HH2.out | exact HH3.out | exact HH4.out | assumption)
        intro hHeld2
        clear hHeld
        have hHeld := hHeld2
        clear hHeld2
        simp only [Act.put, List.setIfInBounds_toArray, List.set_cons_zero, List.set_cons_succ]
        refine take_at (i := 8) 56 (v := .slice (SB sa sc i) (x.L.length - i) (sc - i)) rfl rfl (by kernel_rfl) (by kernel_rfl) (by kernel_rfl) (fun _ _ _ h => h) (by rfl) ?_ hHeld ?_
        · (intro w hSw; go_simp; first | rfl | (unfold SB; rfl))
        simp only [Act.put, List.setIfInBounds_toArray, List.set_cons_zero, List.set_cons_succ]
        refine take_at (i := 9) 57 (v := ?_) rfl rfl (by kernel_rfl) (by kernel_rfl) (by kernel_rfl) (fun _ _ _ h => h) (by rfl) ?_ hHeld ?_
        rotate_left
        · (intro w hSw; (try dsimp only at hSw); go_simp; try with_reducible rfl)
        simp only [Act.put, List.setIfInBounds_toArray, List.set_cons_zero, List.set_cons_succ]
        refine take_at (i := 10) 58 (v := ?_) rfl rfl (by kernel_rfl) (by kernel_rfl) (by kernel_rfl) (fun _ _ _ h => h) (by rfl) ?_ hHeld ?_
        rotate_left
        · (intro w hSw; (try dsimp only at hSw); go_simp; try with_reducible rfl)
        simp only [Act.put, List.setIfInBounds_toArray, List.set_cons_zero, List.set_cons_succ]
        refine run_at (i := 11) rfl (by kernel_rfl) (by rfl) (fun K hK => ?_)
        simp only [List.getElem_toArray, List.getElem_cons_zero, List.getElem_cons_succ]
        (refine wpo_storeLH _ _ rfl g p x sa sc h (by rfl) (by rfl) HG2.out ?_; intro z3 hz3 hg3; have HG3 : Hid (z3.heap[g]? = _) := hz3; have HGR3 : Hid _ := hg3; have HH3 : Hid (z3.heap[w.heap.size]? = some (.cells h.c tHd (0, 0))) := grown_blk hg3 HH2.out HGN.out; clear hz3 hg3)
        refine hK.out _ _ (by first | exact HH2.out | exact HH3.out | exact HH4.out | assumption) ?_
        clear hK K
        intro hHeld2
        clear hHeld
        have hHeld := hHeld2
        clear hHeld2
        try simp only [Act.put, List.setIfInBounds_toArray, List.set_cons_zero, List.set_cons_succ]
        refine take_at (i := 12) 59 (v := ?_) rfl rfl (by kernel_rfl) (by kernel_rfl) (by kernel_rfl) (fun _ _ _ h => h) (by rfl) ?_ hHeld ?_
        rotate_left
        · (intro w hSw; (try dsimp only at hSw); go_simp; try with_reducible rfl)
        simp only [Act.put, List.setIfInBounds_toArray, List.set_cons_zero, List.set_cons_succ]
        refine take_at (i := 13) 60 (v := ?_) rfl rfl (by kernel_rfl) (by kernel_rfl) (by kernel_rfl) (fun _ _ _ h => h) (by rfl) ?_ hHeld ?_
        rotate_left
        · (intro w hSw; (try dsimp only at hSw); go_simp; try with_reducible rfl)
        simp only [Act.put, List.setIfInBounds_toArray, List.set_cons_zero, List.set_cons_succ]
        refine run_at (i := 14) rfl (by kernel_rfl) (by rfl) (fun K hK => ?_)
        simp only [List.getElem_toArray, List.getElem_cons_zero, List.getElem_cons_succ]
        (refine wpo_storeLS _ _ rfl g p _ sa _ sc _ (x.L.drop i) _ HDL.out (by rfl) (by rfl) HG3.out ?_; intro z4 hz4 hg4; have HG4 : Hid (z4.heap[g]? = _) := hz4; have HGR4 : Hid _ := hg4; have HH4 : Hid (z4.heap[w.heap.size]? = some (.cells h.c tHd (0, 0))) := grown_blk hg4 HH3.out HGN.out; clear hz4 hg4)
        refine hK.out _ _ (by first | exact HH2.out | exact HH3.out | exact HH4.out | assumption) ?_
        clear hK K
        intro hHeld2
        clear hHeld
        have hHeld := hHeld2
        clear hHeld2
        try simp only [Act.put, List.setIfInBounds_toArray, List.set_cons_zero, List.set_cons_succ]
        refine wpAnyH_done (by kernel_rfl) ?_ _
        go_wp2
        go_ret
        exact ⟨rfl, BgOut_yes HOK.out HHD.out HKE.out HSC.out HR.out HD.out HL1.out HS2.out.2.2 (HGR3.out) HG4.out HGR4.out (Array.getElem?_eq_some_iff.1 HG.out).1⟩
      · have HNF : Hid (h.c = #[.int .u64 (G : Int), .int .u64 (ep : Int), .int .u64 (f : Int), .int .u64 (ep : Int)]) := by
          unfold Hid; rw [HHD.out, HGG.out]; unfold Lg.newH; rw [← HKE.out, hLs]; simp [hsn]
        have HBF : Hid (bsF x.L f k = false) := by unfold Hid bsF; rw [hLs]; simp [hsn]
        clear hLs hsn
        go_enter Tryd.func41, Tryd.ntmps41
        go_wp2_with (go_at_call 45; refine Calls.mono (HB0.out _ (alS (Below.refl _ _) _)) ?_; rintro e u ⟨i, rfl, hbs, hb1⟩; have HBS : Hid (BsIs x.L f i) := hbs; have hi := hbs.cnt; rw [← HKE.out] at hi; subst hi; rw [HBF.out]; have HU : Hid (Below w.heap.size w u) := below_next (alS (Below.refl _ _) _) hb1; have HBX : Hid (u.heap[w.heap.size]? = some (.cells h.c tHd (0, 0))) := (by unfold Hid; rw [HNF.out]; exact below_blk hb1 (heap_alloc_new w _)); clear hbs hb1 c3)
        have HS0 : Hid (BgS x g p sa sc w.heap.size h u.drew) := (HSA.out u _ HU.out HBX.out (Chg.of_below (Below.refl _ _).drew)).1
        have HST : Hid (∀ v, DLft u.drew p _ _ F v → _) := fun v (hv : DLft u.drew p (runO d (hdO x.A x.Z h)).1 (n + 1) F v) => HSA.out u.drew v HU.out.drew (below_blk (Below.refl _ _).drew HBX.out) hv.chg
        have HWH : Hid (Calls _ _ _ u.drew _) := HWA.out u.drew HU.out.drew
        refine wp_region_held_drew (S := (fun v => BgS x g p sa sc w.heap.size h v)) (by kernel_rfl) (by first | exact HS0.out | exact HS1.out.1 | exact HS2.out.1 | assumption) (fun hHeld => ?_)
        refine take_at (i := 0) 37 (v := ?_) rfl rfl (by kernel_rfl) (by kernel_rfl) (by kernel_rfl) (fun _ _ _ h => h) (by rfl) ?_ hHeld ?_
        rotate_left
        · (intro w hSw; (try dsimp only at hSw); go_simp; try with_reducible rfl)
        simp only [Act.put, List.setIfInBounds_toArray, List.set_cons_zero, List.set_cons_succ]
        refine take_at (i := 1) 38 (v := ?_) rfl rfl (by kernel_rfl) (by kernel_rfl) (by kernel_rfl) (fun _ _ _ h => h) (by rfl) ?_ hHeld ?_
        rotate_left
        · (intro w hSw; (try dsimp only at hSw); go_simp; try with_reducible rfl)
        simp only [Act.put, List.setIfInBounds_toArray, List.set_cons_zero, List.set_cons_succ]
        refine take_at (i := 2) 39 (v := ?_) rfl rfl (by kernel_rfl) (by kernel_rfl) (by kernel_rfl) (fun _ _ _ h => h) (by rfl) ?_ hHeld ?_
        rotate_left
        · (intro w hSw; (try dsimp only at hSw); go_simp; try with_reducible rfl)
        simp only [Act.put, List.setIfInBounds_toArray, List.set_cons_zero, List.set_cons_succ]
        refine take_at (i := 3) 40 (v := ?_) rfl rfl (by kernel_rfl) (by kernel_rfl) (by kernel_rfl) (fun _ _ _ h => h) (by rfl) ?_ hHeld ?_
        rotate_left
        · (intro w hSw; (try dsimp only at hSw); go_simp; try with_reducible rfl)
        simp only [Act.put, List.setIfInBounds_toArray, List.set_cons_zero, List.set_cons_succ]
        refine take_at (i := 4) 41 (v := plV p x.A x.Z) rfl rfl (by kernel_rfl) (by kernel_rfl) (by kernel_rfl) (fun _ _ _ h => h) (by rfl) ?_ hHeld ?_
        · (intro w hSw; refine exec_load (by rfl) ?_; exact hSw.pl)
        simp only [Act.put, List.setIfInBounds_toArray, List.set_cons_zero, List.set_cons_succ]
        refine take_at (i := 5) 42 (v := h.v) rfl rfl (by kernel_rfl) (by kernel_rfl) (by kernel_rfl) (fun _ _ _ h => h) (by rfl) ?_ hHeld ?_
        · (intro w hSw; refine exec_load (by rfl) ?_; exact hdLoad hSw.bx)
        simp only [Act.put, List.setIfInBounds_toArray, List.set_cons_zero, List.set_cons_succ]
        refine run_at (i := 6) rfl (by kernel_rfl) (by rfl) (fun K hK => ?_)
        simp only [List.getElem_toArray, List.getElem_cons_zero, List.getElem_cons_succ]
        go_simp
        first | (go_at_call 57; refine Calls.mono HWH.out ?_; rintro e v1 ⟨rfl, h1⟩; have HL1 : Hid (DLft w p _ (n + 1) F v1) := DLft.frm (HU.out.drew) h1; have HS1 : Hid (BgS x g p sa sc w.heap.size h v1 ∧ v1.heap[g]? = some (.cells (x.c p sa sc) tLg (0, 0))) := HST.out _ h1; have HHR : Hid (Calls _ _ _ v1 _) := heard_t g p x sa sc 0 v1 HS1.out.2; clear h1) | (go_at_call 49; refine Calls.mono HHR.out ?_; rintro e v2 ⟨rfl, h2, h3⟩; have HS2 : Hid (BgS x g p sa sc w.heap.size h v2 ∧ v2.heap[g]? = some (.cells ((x.hear (0 : Nat)).c p sa sc) tLg (0, 0)) ∧ v1.grownBy v2 (some g)) := ⟨⟨⟨_, h2⟩, grown_blk h3 HS1.out.1.bx HGN.out⟩, h2, h3⟩; clear h2 h3)
        go_wp2_with fail
        refine hK.out _ _ (by first | exact HS0.out | exact HS1.out.1 | exact HS2.out.1 | assumption) ?_
        clear hK K
        intro hHeld2
        clear hHeld
        have hHeld := hHeld2
        clear hHeld2
        try simp only [Act.put, List.setIfInBounds_toArray, List.set_cons_zero, List.set_cons_succ]
        refine run_at (i := 7) rfl (by kernel_rfl) (by rfl) (fun K hK => ?_)
        simp only [List.getElem_toArray, List.getElem_cons_zero, List.getElem_cons_succ]
        go_simp
        first | (go_at_call 57; refine Calls.mono HWH.out ?_; rintro e v1 ⟨rfl, h1⟩; have HL1 : Hid (DLft w p _ (n + 1) F v1) := DLft.frm (HU.out.drew) h1; have HS1 : Hid (BgS x g p sa sc w.heap.size h v1 ∧ v1.heap[g]? = some (.cells (x.c p sa sc) tLg (0, 0))) := HST.out _ h1; have HHR : Hid (Calls _ _ _ v1 _) := heard_t g p x sa sc 0 v1 HS1.out.2; clear h1) | (go_at_call 49; refine Calls.mono HHR.out ?_; rintro e v2 ⟨rfl, h2, h3⟩; have HS2 : Hid (BgS x g p sa sc w.heap.size h v2 ∧ v2.heap[g]? = some (.cells ((x.hear (0 : Nat)).c p sa sc) tLg (0, 0)) ∧ v1.grownBy v2 (some g)) := ⟨⟨⟨_, h2⟩, grown_blk h3 HS1.out.1.bx HGN.out⟩, h2, h3⟩; clear h2 h3)
        go_wp2_with fail
        refine hK.out _ _ (by first | exact HS0.out | exact HS1.out.1 | exact HS2.out.1 | assumption) ?_
        clear hK K
        intro hHeld2
        clear hHeld
        have hHeld := hHeld2
        clear hHeld2
        try simp only [Act.put, List.setIfInBounds_toArray, List.set_cons_zero, List.set_cons_succ]
        refine take_at (i := 8) 10 (v := ?_) rfl rfl (by kernel_rfl) (by kernel_rfl) (by kernel_rfl) (fun _ _ _ h => h) (by rfl) ?_ hHeld ?_
        rotate_left
        · (intro w hSw; (try dsimp only at hSw); go_simp; try with_reducible rfl)
        simp only [Act.put, List.setIfInBounds_toArray, List.set_cons_zero, List.set_cons_succ]
        refine wpAnyH_done (by kernel_rfl) ?_ _
        go_wp2
        have hC8 : v2.drew.cell? ⟨g, 8, none⟩ = some (.slice sa x.L.length sc) := (cells10 (below_blk (Below.refl _ _).drew HS2.out.2.1)).2.2.2.2.2.2.2.2.1
        have HC8 : Hid (v2.drew.cell? ⟨g, 8, none⟩ = some (.slice sa x.L.length sc)) := hC8
        have HG2 : Hid (v2.drew.heap[g]? = some (.cells (x.c p sa sc) tLg (0, 0))) := below_blk (Below.refl _ _).drew HS2.out.2.1
        have HH2 : Hid (v2.drew.heap[w.heap.size]? = some (.cells h.c tHd (0, 0))) := below_blk (Below.refl _ _).drew HS2.out.1.bx
        have hiL : i ≤ x.L.length := HBS.out.le
        have HDL : Hid (x.L.length - i = (x.L.drop i).length) := (List.length_drop ..).symm
        clear hC8 hHeld
        refine wp_region_held_drew (S := (fun v => v.heap[w.heap.size]? = some (.cells h.c tHd (0, 0)))) (by kernel_rfl) (by first | exact HH2.out | exact HH3.out | exact HH4.out | assumption) (fun hHeld => ?_)
        refine take_at (i := 0) 48 (v := ?_) rfl rfl (by kernel_rfl) (by kernel_rfl) (by kernel_rfl) (fun _ _ _ h => h) (by rfl) ?_ hHeld ?_
        rotate_left
        · (intro w hSw; (try dsimp only at hSw); go_simp; try with_reducible rfl)
        simp only [Act.put, List.setIfInBounds_toArray, List.set_cons_zero, List.set_cons_succ]
        refine take_at (i := 1) 49 (v := ?_) rfl rfl (by kernel_rfl) (by kernel_rfl) (by kernel_rfl) (fun _ _ _ h => h) (by rfl) ?_ hHeld ?_
        rotate_left
        · (intro w hSw; (try dsimp only at hSw); go_simp; try with_reducible rfl)
        simp only [Act.put, List.setIfInBounds_toArray, List.set_cons_zero, List.set_cons_succ]
        refine take_at (i := 2) 50 (v := h.v) rfl rfl (by kernel_rfl) (by kernel_rfl) (by kernel_rfl) (fun _ _ _ h => h) (by rfl) ?_ hHeld ?_
        · (intro w hSw; refine exec_load (by rfl) ?_; exact hdLoad hSw)
        simp only [Act.put, List.setIfInBounds_toArray, List.set_cons_zero, List.set_cons_succ]
        refine take_at (i := 3) 51 (v := ?_) rfl rfl (by kernel_rfl) (by kernel_rfl) (by kernel_rfl) (fun _ _ _ h => h) (by rfl) ?_ hHeld ?_
        rotate_left
        · (intro w hSw; (try dsimp only at hSw); go_simp; try with_reducible rfl)
        simp only [Act.put, List.setIfInBounds_toArray, List.set_cons_zero, List.set_cons_succ]
        refine take_at (i := 4) 52 (v := ?_) rfl rfl (by kernel_rfl) (by kernel_rfl) (by kernel_rfl) (fun _ _ _ h => h) (by rfl) ?_ hHeld ?_
        rotate_left
        · (intro w hSw; (try dsimp only at hSw); go_simp; try with_reducible rfl)
        simp only [Act.put, List.setIfInBounds_toArray, List.set_cons_zero, List.set_cons_succ]
        refine take_at (i := 5) 53 (v := ?_) rfl rfl (by kernel_rfl) (by kernel_rfl) (by kernel_rfl) (fun _ _ _ h => h) (by rfl) ?_ hHeld ?_
        rotate_left
        · (intro w hSw; (try dsimp only at hSw); go_simp; try with_reducible rfl)
        simp only [Act.put, List.setIfInBounds_toArray, List.set_cons_zero, List.set_cons_succ]
        refine take_at (i := 7) 55 (v := ?_) rfl rfl (by kernel_rfl) (by kernel_rfl) (by kernel_rfl) (fun _ _ _ h => h) (by rfl) ?_ hHeld ?_
        rotate_left
        · (intro w hSw; (try dsimp only at hSw); go_simp; try with_reducible rfl)
        simp only [Act.put, List.setIfInBounds_toArray, List.set_cons_zero, List.set_cons_succ]
        refine val_at (i := 6) 54 (v := .slice sa x.L.length sc) rfl rfl (by kernel_rfl) (by rfl) ?_ ?_ ?_
        · (have hc9 := HC8.out; go_simp; try with_reducible rfl)
        · (first | exact HH2.out | exact HH3.out | exact HH4.out | assumption)
        intro hHeld2
        clear hHeld
        have hHeld := hHeld2
        clear hHeld2
        simp only [Act.put, List.setIfInBounds_toArray, List.set_cons_zero, List.set_cons_succ]
        refine take_at (i := 8) 56 (v := .slice (SB sa sc i) (x.L.length - i) (sc - i)) rfl rfl (by kernel_rfl) (by kernel_rfl) (by kernel_rfl) (fun _ _ _ h => h) (by rfl) ?_ hHeld ?_
        · (intro w hSw; go_simp; first | rfl | (unfold SB; rfl))
        simp only [Act.put, List.setIfInBounds_toArray, List.set_cons_zero, List.set_cons_succ]
        refine take_at (i := 9) 57 (v := ?_) rfl rfl (by kernel_rfl) (by kernel_rfl) (by kernel_rfl) (fun _ _ _ h => h) (by rfl) ?_ hHeld ?_
        rotate_left
        · (intro w hSw; (try dsimp only at hSw); go_simp; try with_reducible rfl)
        simp only [Act.put, List.setIfInBounds_toArray, List.set_cons_zero, List.set_cons_succ]
        refine take_at (i := 10) 58 (v := ?_) rfl rfl (by kernel_rfl) (by kernel_rfl) (by kernel_rfl) (fun _ _ _ h => h) (by rfl) ?_ hHeld ?_
        rotate_left
        · (intro w hSw; (try dsimp only at hSw); go_simp; try with_reducible rfl)
        simp only [Act.put, List.setIfInBounds_toArray, List.set_cons_zero, List.set_cons_succ]
        refine run_at (i := 11) rfl (by kernel_rfl) (by rfl) (fun K hK => ?_)
        simp only [List.getElem_toArray, List.getElem_cons_zero, List.getElem_cons_succ]
        (refine wpo_storeLH _ _ rfl g p x sa sc h (by rfl) (by rfl) HG2.out ?_; intro z3 hz3 hg3; have HG3 : Hid (z3.heap[g]? = _) := hz3; have HGR3 : Hid _ := hg3; have HH3 : Hid (z3.heap[w.heap.size]? = some (.cells h.c tHd (0, 0))) := grown_blk hg3 HH2.out HGN.out; clear hz3 hg3)
        refine hK.out _ _ (by first | exact HH2.out | exact HH3.out | exact HH4.out | assumption) ?_
        clear hK K
        intro hHeld2
        clear hHeld
        have hHeld := hHeld2
        clear hHeld2
        try simp only [Act.put, List.setIfInBounds_toArray, List.set_cons_zero, List.set_cons_succ]
        refine take_at (i := 12) 59 (v := ?_) rfl rfl (by kernel_rfl) (by kernel_rfl) (by kernel_rfl) (fun _ _ _ h => h) (by rfl) ?_ hHeld ?_
        rotate_left
        · (intro w hSw; (try dsimp only at hSw); go_simp; try with_reducible rfl)
        simp only [Act.put, List.setIfInBounds_toArray, List.set_cons_zero, List.set_cons_succ]
        refine take_at (i := 13) 60 (v := ?_) rfl rfl (by kernel_rfl) (by kernel_rfl) (by kernel_rfl) (fun _ _ _ h => h) (by rfl) ?_ hHeld ?_
        rotate_left
        · (intro w hSw; (try dsimp only at hSw); go_simp; try with_reducible rfl)
        simp only [Act.put, List.setIfInBounds_toArray, List.set_cons_zero, List.set_cons_succ]
        refine run_at (i := 14) rfl (by kernel_rfl) (by rfl) (fun K hK => ?_)
        simp only [List.getElem_toArray, List.getElem_cons_zero, List.getElem_cons_succ]
        (refine wpo_storeLS _ _ rfl g p _ sa _ sc _ (x.L.drop i) _ HDL.out (by rfl) (by rfl) HG3.out ?_; intro z4 hz4 hg4; have HG4 : Hid (z4.heap[g]? = _) := hz4; have HGR4 : Hid _ := hg4; have HH4 : Hid (z4.heap[w.heap.size]? = some (.cells h.c tHd (0, 0))) := grown_blk hg4 HH3.out HGN.out; clear hz4 hg4)
        refine hK.out _ _ (by first | exact HH2.out | exact HH3.out | exact HH4.out | assumption) ?_
        clear hK K
        intro hHeld2
        clear hHeld
        have hHeld := hHeld2
        clear hHeld2
        try simp only [Act.put, List.setIfInBounds_toArray, List.set_cons_zero, List.set_cons_succ]
        refine wpAnyH_done (by kernel_rfl) ?_ _
        go_wp2
        go_ret
        exact ⟨rfl, BgOut_yes HOK.out HHD.out HKE.out HSC.out HR.out HD.out HL1.out HS2.out.2.2 (HGR3.out) HG4.out HGR4.out (Array.getElem?_eq_some_iff.1 HG.out).1⟩
end Go.Proofs.YtibepnilhmbpeaaDoor
