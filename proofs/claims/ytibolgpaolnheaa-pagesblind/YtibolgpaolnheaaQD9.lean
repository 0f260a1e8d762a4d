import Derived.Test.YtibolgpaolnheaaQD6
namespace Go.Proofs.Ytibolgpaolnheaa
set_option linter.unusedVariables false
set_option linter.unusedSimpArgs false
open Go.RowKit
section
set_option maxRecDepth 20000
set_option maxHeartbeats 3200000
variable {w : World} {g n : Nat} {vs : List Value}
/-- a page in the midst becomes two, and there is no room -/
theorem splitB (h : w.ownsRow 0 tPg 1 (.slice (some ⟨g, 0, none⟩) n n) n vs) (hu : ∀ u ∈ vs, u.oneCell' = true) (i j k : Nat) (hj : j = i + 1) (hjn : j < n) (hk : k = n + 1) (gv : Nat) (x y : Value) (hgv : w.heap[gv]? = some (.cells #[x, y] tPg (0, 0))) (hx1 : x.oneCell' = true) (hy1 : y.oneCell' = true) (hl : n ≤ 4398046511104) :
    Calls Try.prog 60 #[.slice (some ⟨g, 0, none⟩) n n, .int .i64 (i : Int), .int .i64 (j : Int), .slice (some ⟨gv, 0, none⟩) 2 2] w fun e w' => ∃ g' cap', e = .returned (.slice (some ⟨g', 0, none⟩) k cap') ∧ w'.ownsRow 0 tPg 1 (.slice (some ⟨g', 0, none⟩) k cap') k (repL vs i j [x, y]) ∧ w.grownBy w' (some g) ∧ w.heap.size ≤ g' := by
  obtain ⟨cur, hrow, hcl, htk, hnc, hcm, hvl, -⟩ := row_open h
  have HVL : Hid _ := hvl
  have HROW : Hid (RowL w g cur) := hrow
  have HCL : Hid _ := hcl
  have HTK : Hid _ := htk
  have HCM : Hid _ := hcm
  have HGV : Hid (w.heap[gv]? = some (.cells #[x, y] tPg (0, 0))) := hgv
  have HU : Hid _ := hu
  have HONE : Hid (∀ u ∈ [x, y], u.oneCell' = true) := fun u hu => by
    rcases List.mem_cons.1 hu with rfl | hu
    · exact hx1
    · obtain rfl := List.mem_singleton.1 hu; exact hy1
  obtain ⟨i2, hi2⟩ : ∃ i2, i2 = i + 2 := ⟨_, rfl⟩
  obtain ⟨m, hm⟩ : ∃ m, m = n - j := ⟨_, rfl⟩
  have hw1 : IntKind.i64.wrap ((i : Int) + 2) = (i2 : Int) := by rw [IntKind.wrap_i64]; omega
  have hw2 : IntKind.i64.wrap ((i2 : Int) + (m : Int)) = (k : Int) := by rw [IntKind.wrap_i64]; omega
  have hi0 : (0 : Int) ≤ (i : Int) := by omega
  have hj0 : (0 : Int) ≤ (j : Int) := by omega
  have hk0 : (0 : Int) ≤ (k : Int) := by omega
  have hi20 : (0 : Int) ≤ (i2 : Int) := by omega
  have hij : (i : Int) ≤ (j : Int) := by omega
  have hijn : i ≤ j := by omega
  have hjnI : (j : Int) ≤ (n : Int) := by omega
  have hjnn : j ≤ n := by omega
  have hinn : i ≤ n := by omega
  have hin : (i : Int) ≤ (n : Int) := by omega
  have hic : (i : Int) ≤ (n : Int) := by omega
  have hicn : i ≤ n := by omega
  have hjc : (j : Int) ≤ (n : Int) := by omega
  have hjcn : j ≤ n := by omega
  have hci : ¬ n = i := by omega
  have hcj : ¬ n = j := by omega
  have hgt : ((n : Int) < (k : Int)) := by omega
  obtain ⟨q, hq⟩ : ∃ q, q = k - i := ⟨_, rfl⟩
  have hw3 : IntKind.i64.wrap ((k : Int) - (i : Int)) = (q : Int) := by rw [IntKind.wrap_i64]; omega
  have HQ : Hid (q = k - i) := hq
  clear hq
  have hi2k : (i2 : Int) ≤ (k : Int) := by omega
  have hi2kn : i2 ≤ k := by omega
  have hik : (i : Int) ≤ (k : Int) := by omega
  have hikn : i ≤ k := by omega
  have hne : ¬ (i : Int) = (j : Int) := by omega
  have hneb : ((i : Int) == (j : Int)) = false := by simpa using hne
  have hne2 : ¬ (j : Int) = (n : Int) := by omega
  have hneb2 : ((j : Int) == (n : Int)) = false := by simpa using hne2
  have HJ : Hid (j = i + 1) := hj
  have HK : Hid (k = n + 1) := hk
  have HI2 : Hid (i2 = i + 2) := hi2
  have HM : Hid (m = n - j) := hm
  clear hm h hrow hcl htk hcm hvl hgv hx1 hy1 hj hk hi2 hu
  go_enter Try.func60, Try.ntmps60
  go_wp2_with fail
  refine wp_region_noPanic ?_
  refine wp_region_held_drew (S := (fun _ => True)) (by kernel_rfl) (by exact trivial) (fun hHeld => ?_)
  refine take_at (i := 0) 45 (v := ?_) rfl rfl (by kernel_rfl) (by kernel_rfl) (by kernel_rfl) (fun _ _ _ h => h) (by rfl) ?_ hHeld ?_
  rotate_left
  · (intro w hSw; (try dsimp only at hSw); go_simp; try with_reducible rfl)
  simp only [Act.put, List.setIfInBounds_toArray, List.set_cons_zero, List.set_cons_succ]
  refine take_at (i := 1) 46 (v := ?_) rfl rfl (by kernel_rfl) (by kernel_rfl) (by kernel_rfl) (fun _ _ _ h => h) (by rfl) ?_ hHeld ?_
  rotate_left
  · (intro w hSw; (try dsimp only at hSw); go_simp; try with_reducible rfl)
  simp only [Act.put, List.setIfInBounds_toArray, List.set_cons_zero, List.set_cons_succ]
  refine take_at (i := 2) 47 (v := ?_) rfl rfl (by kernel_rfl) (by kernel_rfl) (by kernel_rfl) (fun _ _ _ h => h) (by rfl) ?_ hHeld ?_
  rotate_left
  · (intro w hSw; (try dsimp only at hSw); go_simp; try with_reducible rfl)
  simp only [Act.put, List.setIfInBounds_toArray, List.set_cons_zero, List.set_cons_succ]
  refine take_at (i := 3) 48 (v := ?_) rfl rfl (by kernel_rfl) (by kernel_rfl) (by kernel_rfl) (fun _ _ _ h => h) (by rfl) ?_ hHeld ?_
  rotate_left
  · (intro w hSw; (try dsimp only at hSw); go_simp; try with_reducible rfl)
  simp only [Act.put, List.setIfInBounds_toArray, List.set_cons_zero, List.set_cons_succ]
  refine take_at (i := 4) 49 (v := ?_) rfl rfl (by kernel_rfl) (by kernel_rfl) (by kernel_rfl) (fun _ _ _ h => h) (by rfl) ?_ hHeld ?_
  rotate_left
  · (intro w hSw; (try dsimp only at hSw); go_simp; try with_reducible rfl)
  simp only [Act.put, List.setIfInBounds_toArray, List.set_cons_zero, List.set_cons_succ]
  refine take_at (i := 5) 50 (v := ?_) rfl rfl (by kernel_rfl) (by kernel_rfl) (by kernel_rfl) (fun _ _ _ h => h) (by rfl) ?_ hHeld ?_
  rotate_left
  · (intro w hSw; (try dsimp only at hSw); go_simp; try with_reducible rfl)
  simp only [Act.put, List.setIfInBounds_toArray, List.set_cons_zero, List.set_cons_succ]
  refine take_at (i := 6) 51 (v := ?_) rfl rfl (by kernel_rfl) (by kernel_rfl) (by kernel_rfl) (fun _ _ _ h => h) (by rfl) ?_ hHeld ?_
  rotate_left
  · (intro w hSw; (try dsimp only at hSw); go_simp; try with_reducible rfl)
  simp only [Act.put, List.setIfInBounds_toArray, List.set_cons_zero, List.set_cons_succ]
  refine take_at (i := 7) 52 (v := ?_) rfl rfl (by kernel_rfl) (by kernel_rfl) (by kernel_rfl) (fun _ _ _ h => h) (by rfl) ?_ hHeld ?_
  rotate_left
  · (intro w hSw; (try dsimp only at hSw); go_simp; try with_reducible rfl)
  simp only [Act.put, List.setIfInBounds_toArray, List.set_cons_zero, List.set_cons_succ]
  refine take_at (i := 8) 53 (v := ?_) rfl rfl (by kernel_rfl) (by kernel_rfl) (by kernel_rfl) (fun _ _ _ h => h) (by rfl) ?_ hHeld ?_
  rotate_left
  · (intro w hSw; (try dsimp only at hSw); go_simp; try with_reducible rfl)
  simp only [Act.put, List.setIfInBounds_toArray, List.set_cons_zero, List.set_cons_succ]
  refine take_at (i := 9) 54 (v := (.slice (some ⟨g, j, none⟩) m (n - j))) rfl rfl (by kernel_rfl) (by kernel_rfl) (by kernel_rfl) (fun _ _ _ h => h) (by rfl) ?_ hHeld ?_
  · (intro w hSw; rw [HM.out]; go_simp; try with_reducible rfl)
  simp only [Act.put, List.setIfInBounds_toArray, List.set_cons_zero, List.set_cons_succ]
  refine take_at (i := 10) 55 (v := ?_) rfl rfl (by kernel_rfl) (by kernel_rfl) (by kernel_rfl) (fun _ _ _ h => h) (by rfl) ?_ hHeld ?_
  rotate_left
  · (intro w hSw; (try dsimp only at hSw); go_simp; try with_reducible rfl)
  simp only [Act.put, List.setIfInBounds_toArray, List.set_cons_zero, List.set_cons_succ]
  refine take_at (i := 11) 56 (v := ?_) rfl rfl (by kernel_rfl) (by kernel_rfl) (by kernel_rfl) (fun _ _ _ h => h) (by rfl) ?_ hHeld ?_
  rotate_left
  · (intro w hSw; (try dsimp only at hSw); go_simp; try with_reducible rfl)
  simp only [Act.put, List.setIfInBounds_toArray, List.set_cons_zero, List.set_cons_succ]
  refine take_at (i := 12) 10 (v := ?_) rfl rfl (by kernel_rfl) (by kernel_rfl) (by kernel_rfl) (fun _ _ _ h => h) (by rfl) ?_ hHeld ?_
  rotate_left
  · (intro w hSw; (try dsimp only at hSw); go_simp; try with_reducible rfl)
  simp only [Act.put, List.setIfInBounds_toArray, List.set_cons_zero, List.set_cons_succ]
  refine wpAnyH_done (by kernel_rfl) ?_ _
  refine NoPanic.normal ?_
  obtain ⟨w2, g2, c2, cur2, hz, hr2, hcl2, htk2, hlc2, hcm2, hg2, hgr2⟩ := zeros_run (w := w.drew) (RowL.drew HROW.out) HCL.out i q k (by omega) (by have := HQ.out; omega) (by have := HQ.out; omega) (by omega) (by have := HK.out; omega)
  have HZ : Hid _ := hz
  have HG2 : Hid (w.grownBy w2 none) := grow_trans grow_drew hgr2
  have hg2g : g2 ≠ gv := fun e => by
    have := (Array.getElem?_eq_some_iff.1 HGV.out).1
    have e2 : g2 = w.heap.size := hg2
    omega
  have hg2r : g2 ≠ g := fun e => by
    have := (Array.getElem?_eq_some_iff.1 (show w.heap[g]? = _ from HROW.out)).1
    have e2 : g2 = w.heap.size := hg2
    omega
  have HGV2 : Hid (w2.heap[gv]? = some (.cells #[x, y] tPg (0, 0))) := (HG2.out.block gv (Array.getElem?_eq_some_iff.1 HGV.out).1 (fun e => by cases e)).trans HGV.out
  have HROW2 : Hid (RowL w2 g cur) := (HG2.out.block g (Array.getElem?_eq_some_iff.1 (show w.heap[g]? = _ from HROW.out)).1 (fun e => by cases e)).trans HROW.out
  obtain ⟨w3, hcp, hr3, hg3⟩ := copy_run (off := i) (dLen := k - i) (sLen := 2) (sCap := 2) (ad := ⟨gv, 0, none⟩) hr2 [x, y] (by have := HK.out; have := HJ.out; simp only [Nat.min_def, List.length_cons, List.length_nil]; split <;> omega) (news2 HGV2.out) (by rw [hcl2]; have := HJ.out; have := HK.out; simp; omega) HONE.out
  have HR3 : Hid (RowL w3 g2 (splice cur2 i [x, y])) := hr3
  have HG3 : Hid (w2.grownBy w3 (some g2)) := hg3
  have HROW3 : Hid (RowL w3 g cur) := (HG3.out.block g (Array.getElem?_eq_some_iff.1 (show w2.heap[g]? = _ from HROW2.out)).1 (fun e => hg2r (Option.some.inj e).symm)).trans HROW2.out
  have HLEN : Hid ((splice cur2 i [x, y]).length = c2) := (show _ = _ by rw [splice_len (by rw [hcl2]; have := HJ.out; have := HK.out; simp; omega), hcl2])
  have HTK2 : Hid _ := htk2
  have HCL2 : Hid _ := hcl2
  have HCM2 : Hid _ := hcm2
  have HGE : Hid (w.heap.size ≤ g2) := (show w.heap.size ≤ g2 by rw [hg2]; exact Nat.le_refl _)
  have hic2 : (i : Int) ≤ (c2 : Int) := by omega
  have hi2c2 : (i2 : Int) ≤ (c2 : Int) := by omega
  have hci2 : ¬ c2 = i := by omega
  have hci22 : ¬ c2 = i2 := by have := HI2.out; have := HK.out; have := HJ.out; omega
  clear hr3 hg3 hz hr2 htk2 hcl2 hcm2 hg2 hgr2
  go_wp2_with (at_builtin; refine Go.Lib.wpList_append_run _ rfl _ _ _ _ rfl _ _ rfl rfl _ _ (HZ.out _) ?_)
  refine wp_region_noPanic ?_
  refine wp_region_held_drew (S := (fun _ => True)) (by kernel_rfl) (by exact trivial) (fun hHeld => ?_)
  refine take_at (i := 0) 73 (v := ?_) rfl rfl (by kernel_rfl) (by kernel_rfl) (by kernel_rfl) (fun _ _ _ h => h) (by rfl) ?_ hHeld ?_
  rotate_left
  · (intro w hSw; (try dsimp only at hSw); go_simp; try with_reducible rfl)
  simp only [Act.put, List.setIfInBounds_toArray, List.set_cons_zero, List.set_cons_succ]
  refine take_at (i := 1) 74 (v := ?_) rfl rfl (by kernel_rfl) (by kernel_rfl) (by kernel_rfl) (fun _ _ _ h => h) (by rfl) ?_ hHeld ?_
  rotate_left
  · (intro w hSw; (try dsimp only at hSw); go_simp; try with_reducible rfl)
  simp only [Act.put, List.setIfInBounds_toArray, List.set_cons_zero, List.set_cons_succ]
  refine take_at (i := 2) 75 (v := ?_) rfl rfl (by kernel_rfl) (by kernel_rfl) (by kernel_rfl) (fun _ _ _ h => h) (by rfl) ?_ hHeld ?_
  rotate_left
  · (intro w hSw; (try dsimp only at hSw); go_simp; try with_reducible rfl)
  simp only [Act.put, List.setIfInBounds_toArray, List.set_cons_zero, List.set_cons_succ]
  refine take_at (i := 3) 76 (v := ?_) rfl rfl (by kernel_rfl) (by kernel_rfl) (by kernel_rfl) (fun _ _ _ h => h) (by rfl) ?_ hHeld ?_
  rotate_left
  · (intro w hSw; (try dsimp only at hSw); go_simp; try with_reducible rfl)
  simp only [Act.put, List.setIfInBounds_toArray, List.set_cons_zero, List.set_cons_succ]
  refine take_at (i := 4) 77 (v := ?_) rfl rfl (by kernel_rfl) (by kernel_rfl) (by kernel_rfl) (fun _ _ _ h => h) (by rfl) ?_ hHeld ?_
  rotate_left
  · (intro w hSw; (try dsimp only at hSw); go_simp; try with_reducible rfl)
  simp only [Act.put, List.setIfInBounds_toArray, List.set_cons_zero, List.set_cons_succ]
  refine take_at (i := 5) 78 (v := ?_) rfl rfl (by kernel_rfl) (by kernel_rfl) (by kernel_rfl) (fun _ _ _ h => h) (by rfl) ?_ hHeld ?_
  rotate_left
  · (intro w hSw; (try dsimp only at hSw); go_simp; try with_reducible rfl)
  simp only [Act.put, List.setIfInBounds_toArray, List.set_cons_zero, List.set_cons_succ]
  refine take_at (i := 6) 79 (v := ?_) rfl rfl (by kernel_rfl) (by kernel_rfl) (by kernel_rfl) (fun _ _ _ h => h) (by rfl) ?_ hHeld ?_
  rotate_left
  · (intro w hSw; (try dsimp only at hSw); go_simp; try with_reducible rfl)
  simp only [Act.put, List.setIfInBounds_toArray, List.set_cons_zero, List.set_cons_succ]
  refine take_at (i := 7) 80 (v := ?_) rfl rfl (by kernel_rfl) (by kernel_rfl) (by kernel_rfl) (fun _ _ _ h => h) (by rfl) ?_ hHeld ?_
  rotate_left
  · (intro w hSw; (try dsimp only at hSw); go_simp; try with_reducible rfl)
  simp only [Act.put, List.setIfInBounds_toArray, List.set_cons_zero, List.set_cons_succ]
  refine take_at (i := 8) 81 (v := ?_) rfl rfl (by kernel_rfl) (by kernel_rfl) (by kernel_rfl) (fun _ _ _ h => h) (by rfl) ?_ hHeld ?_
  rotate_left
  · (intro w hSw; (try dsimp only at hSw); go_simp; try with_reducible rfl)
  simp only [Act.put, List.setIfInBounds_toArray, List.set_cons_zero, List.set_cons_succ]
  refine run_at (i := 9) rfl (by kernel_rfl) (by rfl) (fun K hK => ?_)
  simp only [List.getElem_toArray, List.getElem_cons_zero, List.getElem_cons_succ]
  (refine wpo_copy _ _ rfl g2 i2 _ _ _ _ _ rfl rfl _ (RowL.drew HR3.out) (vs.drop j) (by rw [List.length_drop, HVL.out]; have := HM.out; have := HI2.out; have := HJ.out; have := HK.out; simp only [Nat.min_def]; split <;> omega) (fun t u ht => RowL.src (RowL.drew HROW3.out) j (n - j) t u (by rw [← HTK.out, List.drop_take] at ht; exact ht)) (by rw [List.length_drop, HVL.out, HLEN.out]; have := HI2.out; have := HJ.out; have := HK.out; omega) (fun u hx => HU.out u (List.mem_of_mem_drop hx)) ?_; intro w4 hr4 hg4; have HR4 : Hid _ := hr4; have HG4 : Hid _ := hg4; clear hr4 hg4)
  refine hK.out _ _ (by exact trivial) ?_
  clear hK K
  intro hHeld2
  clear hHeld
  have hHeld := hHeld2
  clear hHeld2
  try simp only [Act.put, List.setIfInBounds_toArray, List.set_cons_zero, List.set_cons_succ]
  refine wpAnyH_done (by kernel_rfl) ?_ _
  refine NoPanic.normal ?_
  go_wp2
  go_ret
  have hh := HI2.out
  have hh2 := HJ.out
  have hh3 := HK.out
  refine ⟨g2, c2, rfl, row_shut HR4.out ?_ ?_ (by omega) HCM2.out (Nat.zero_le _), ?_, HGE.out⟩
  · rw [splice_len (by rw [List.length_drop, HVL.out, HLEN.out]; omega), HLEN.out]
  · rw [splice_take2 (by rw [HLEN.out]; omega) (by rw [List.length_drop, HVL.out]; omega), splice_take2 (by rw [HCL2.out]; omega) (by simp; omega), HTK2.out, take_of_take HTK.out (by omega)]
    rfl
  · have k1 := HG2.out
    have k3 := HG3.out
    have k4 := HG4.out
    have hge := HGE.out
    refine ⟨k4.os.trans (k3.os.trans k1.os), k4.tape.trans (k3.tape.trans k1.tape), k4.output.trans (k3.output.trans k1.output), Nat.le_trans k1.size (Nat.le_trans k3.size k4.size), fun b hb _ => ?_⟩
    have hb2 : b < w2.heap.size := Nat.lt_of_lt_of_le hb k1.size
    have hb3 : b < w3.heap.size := Nat.lt_of_lt_of_le hb2 k3.size
    have hbn : some b ≠ some g2 := fun e => by have := Option.some.inj e; omega
    exact (k4.block b hb3 hbn).trans ((k3.block b hb2 hbn).trans (k1.block b hb (fun e => by cases e)))
end
end Go.Proofs.Ytibolgpaolnheaa
namespace Go.Proofs.Ytibolgpaolnheaa
set_option linter.unusedVariables false
set_option linter.unusedSimpArgs false
open Go.RowKit
section
set_option maxRecDepth 20000
set_option maxHeartbeats 3200000
variable {w : World} {g n cap : Nat} {vs : List Value}
theorem news1 {gv : Nat} {x : Value} (hgv : w.heap[gv]? = some (.cells #[x] tPg (0, 0))) : ∀ t u, [x][t]? = some u → w.cell? ((⟨gv, 0, none⟩ : Addr).add t) = some u := World.news_of_block hgv
/-- the last two pages become one -/
theorem joinA (h : w.ownsRow 0 tPg 1 (.slice (some ⟨g, 0, none⟩) n cap) n vs) (hu : ∀ u ∈ vs, u.oneCell' = true) (i j k : Nat) (hj : j = i + 2) (hjn : j = n) (hk : n = k + 1) (gv : Nat) (x : Value) (hgv : w.heap[gv]? = some (.cells #[x] tPg (0, 0))) (hgg : g ≠ gv) (hx1 : x.oneCell' = true) (hl : n ≤ 4398046511104) :
    Calls Try.prog 60 #[.slice (some ⟨g, 0, none⟩) n cap, .int .i64 (i : Int), .int .i64 (n : Int), .slice (some ⟨gv, 0, none⟩) 1 1] w fun e w' => e = .returned (.slice (some ⟨g, 0, none⟩) k cap) ∧ w'.ownsRow 0 tPg 1 (.slice (some ⟨g, 0, none⟩) k cap) k (repL vs i n [x]) ∧ w.grownBy w' (some g) := by
  obtain ⟨cur, hrow, hcl, htk, hnc, hcm, hvl, -⟩ := row_open h
  have HVL : Hid _ := hvl
  have HROW : Hid (RowL w g cur) := hrow
  have HCL : Hid _ := hcl
  have HTK : Hid _ := htk
  have HCM : Hid _ := hcm
  have HGV : Hid (w.heap[gv]? = some (.cells #[x] tPg (0, 0))) := hgv
  have HU : Hid _ := hu
  have HONE : Hid (∀ u ∈ [x], u.oneCell' = true) := fun u hu => by
    obtain rfl := List.mem_singleton.1 hu; exact hx1
  obtain ⟨i1, hi1⟩ : ∃ i1, i1 = i + 1 := ⟨_, rfl⟩
  have hw1 : IntKind.i64.wrap ((i : Int) + 1) = (i1 : Int) := by rw [IntKind.wrap_i64]; omega
  have hi0 : (0 : Int) ≤ (i : Int) := by omega
  have hj0 : (0 : Int) ≤ (j : Int) := by omega
  have hk0 : (0 : Int) ≤ (k : Int) := by omega
  have hi10 : (0 : Int) ≤ (i1 : Int) := by omega
  have hij : (i : Int) ≤ (j : Int) := by omega
  have hijn : i ≤ j := by omega
  have hjnI : (j : Int) ≤ (n : Int) := by omega
  have hjnn : j ≤ n := by omega
  have hinn : i ≤ n := by omega
  have hin : (i : Int) ≤ (n : Int) := by omega
  have hncI : (n : Int) ≤ (cap : Int) := by omega
  have hic : (i : Int) ≤ (cap : Int) := by omega
  have hicn : i ≤ cap := by omega
  have hjc : (j : Int) ≤ (cap : Int) := by omega
  have hjcn : j ≤ cap := by omega
  have hci : ¬ cap = i := by omega
  have hck : (k : Int) ≤ (cap : Int) := by omega
  have hckn : k ≤ cap := by omega
  have hckne : ¬ cap = k := by omega
  have hknI : (k : Int) ≤ (n : Int) := by omega
  have hkltI : (k : Int) < (n : Int) := by omega
  have hknn : k ≤ n := by omega
  have hgt : ¬ ((cap : Int) < (k : Int)) := by omega
  have hi1k : (i1 : Int) ≤ (k : Int) := by omega
  have hi1kn : i1 ≤ k := by omega
  have hci1 : ¬ cap = i1 := by omega
  have hik : (i : Int) ≤ (k : Int) := by omega
  have hikn : i ≤ k := by omega
  have hi1j : ((i1 : Int) ≤ (j : Int)) := by omega
  have hne : ¬ (i : Int) = (j : Int) := by omega
  have hneb : ((i : Int) == (j : Int)) = false := by simpa using hne
  have HJ : Hid (j = i + 2) := hj
  have HK : Hid (n = k + 1) := hk
  have HI1 : Hid (i1 = i + 1) := hi1
  subst hjn
  clear h hrow hcl htk hcm hvl hgv hx1 hj hk hi1 hu
  go_enter Try.func60, Try.ntmps60
  go_wp2_with (at_builtin; refine wpl_room rfl _ _ rfl g i cap cur HROW.out rfl ⟨gv, 0, none⟩ 1 1 rfl [x] rfl (news1 HGV.out) HONE.out (by have := HJ.out; omega) HCL.out k (by have := HJ.out; have := HK.out; omega) ?_; intro w2 hr2 hg2; obtain ⟨w3, hcl3, hr3, hg3⟩ := clear_run (k := k) (m := j - k) hr2 (by have := HK.out; omega) (by rw [splice_len (by rw [HCL.out]; have := HJ.out; simp; omega), HCL.out]; omega); have HG2 : Hid _ := hg2; have HR3 : Hid _ := hr3; have HG3 : Hid _ := hg3; clear hr2 hg2 hr3 hg3)
  go_ret
  have hh := HJ.out
  have hh2 := HK.out
  have hlen : (splice cur i [x]).length = cap := by rw [splice_len (by rw [HCL.out]; simp; omega), HCL.out]
  refine ⟨rfl, row_shut HR3.out ?_ ?_ (by omega) HCM.out (Nat.zero_le _), grow_trans HG2.out HG3.out⟩
  · rw [splice_len (by rw [List.length_replicate, hlen]; omega), hlen]
  · rw [splice_take (by rw [hlen]; omega), splice_take2 (by rw [HCL.out]; omega) (by simp; omega), take_of_take HTK.out (by omega)]
    unfold repL
    rw [List.drop_eq_nil_of_le (by rw [HVL.out]; exact Nat.le_refl _), List.append_nil]
/-- two pages in the midst become one -/
theorem joinD (h : w.ownsRow 0 tPg 1 (.slice (some ⟨g, 0, none⟩) n cap) n vs) (hu : ∀ u ∈ vs, u.oneCell' = true) (i j k : Nat) (hj : j = i + 2) (hjn : j < n) (hk : n = k + 1) (gv : Nat) (x : Value) (hgv : w.heap[gv]? = some (.cells #[x] tPg (0, 0))) (hgg : g ≠ gv) (hx1 : x.oneCell' = true) (hl : n ≤ 4398046511104) :
    Calls Try.prog 60 #[.slice (some ⟨g, 0, none⟩) n cap, .int .i64 (i : Int), .int .i64 (j : Int), .slice (some ⟨gv, 0, none⟩) 1 1] w fun e w' => e = .returned (.slice (some ⟨g, 0, none⟩) k cap) ∧ w'.ownsRow 0 tPg 1 (.slice (some ⟨g, 0, none⟩) k cap) k (repL vs i j [x]) ∧ w.grownBy w' (some g) := by
  obtain ⟨cur, hrow, hcl, htk, hnc, hcm, hvl, -⟩ := row_open h
  have HVL : Hid _ := hvl
  have HROW : Hid (RowL w g cur) := hrow
  have HCL : Hid _ := hcl
  have HTK : Hid _ := htk
  have HCM : Hid _ := hcm
  have HGV : Hid (w.heap[gv]? = some (.cells #[x] tPg (0, 0))) := hgv
  have HU : Hid _ := hu
  have HONE : Hid (∀ u ∈ [x], u.oneCell' = true) := fun u hu => by
    obtain rfl := List.mem_singleton.1 hu; exact hx1
  obtain ⟨i1, hi1⟩ : ∃ i1, i1 = i + 1 := ⟨_, rfl⟩
  have hw1 : IntKind.i64.wrap ((i : Int) + 1) = (i1 : Int) := by rw [IntKind.wrap_i64]; omega
  have hi0 : (0 : Int) ≤ (i : Int) := by omega
  have hj0 : (0 : Int) ≤ (j : Int) := by omega
  have hk0 : (0 : Int) ≤ (k : Int) := by omega
  have hi10 : (0 : Int) ≤ (i1 : Int) := by omega
  have hij : (i : Int) ≤ (j : Int) := by omega
  have hijn : i ≤ j := by omega
  have hjnI : (j : Int) ≤ (n : Int) := by omega
  have hjnn : j ≤ n := by omega
  have hinn : i ≤ n := by omega
  have hin : (i : Int) ≤ (n : Int) := by omega
  have hncI : (n : Int) ≤ (cap : Int) := by omega
  have hic : (i : Int) ≤ (cap : Int) := by omega
  have hicn : i ≤ cap := by omega
  have hjc : (j : Int) ≤ (cap : Int) := by omega
  have hjcn : j ≤ cap := by omega
  have hci : ¬ cap = i := by omega
  have hck : (k : Int) ≤ (cap : Int) := by omega
  have hckn : k ≤ cap := by omega
  have hckne : ¬ cap = k := by omega
  have hknI : (k : Int) ≤ (n : Int) := by omega
  have hkltI : (k : Int) < (n : Int) := by omega
  have hknn : k ≤ n := by omega
  have hgt : ¬ ((cap : Int) < (k : Int)) := by omega
  have hi1k : (i1 : Int) ≤ (k : Int) := by omega
  have hi1kn : i1 ≤ k := by omega
  have hci1 : ¬ cap = i1 := by omega
  have hik : (i : Int) ≤ (k : Int) := by omega
  have hikn : i ≤ k := by omega
  have hi1j : ((i1 : Int) ≤ (j : Int)) := by omega
  have hne : ¬ (i : Int) = (j : Int) := by omega
  have hneb : ((i : Int) == (j : Int)) = false := by simpa using hne
  have hcj : ¬ cap = j := by omega
  have hne2 : ¬ (j : Int) = (n : Int) := by omega
  have hneb2 : ((j : Int) == (n : Int)) = false := by simpa using hne2
  obtain ⟨m, hm⟩ : ∃ m, m = n - j := ⟨_, rfl⟩
  have hw2 : IntKind.i64.wrap ((i1 : Int) + (m : Int)) = (k : Int) := by rw [IntKind.wrap_i64]; omega
  have HM : Hid (m = n - j) := hm
  have HJ : Hid (j = i + 2) := hj
  have HK : Hid (n = k + 1) := hk
  have HI1 : Hid (i1 = i + 1) := hi1
  clear hm h hrow hcl htk hcm hvl hgv hx1 hj hk hi1 hu
  go_enter Try.func60, Try.ntmps60
  go_wp2_with fail
  refine wp_region_noPanic ?_
  refine wp_region_held_drew (S := (fun _ => True)) (by kernel_rfl) (by exact trivial) (fun hHeld => ?_)
  refine take_at (i := 0) 45 (v := ?_) rfl rfl (by kernel_rfl) (by kernel_rfl) (by kernel_rfl) (fun _ _ _ h => h) (by rfl) ?_ hHeld ?_
  rotate_left
  · (intro w hSw; (try dsimp only at hSw); go_simp; try with_reducible rfl)
  simp only [Act.put, List.setIfInBounds_toArray, List.set_cons_zero, List.set_cons_succ]
  refine take_at (i := 1) 46 (v := ?_) rfl rfl (by kernel_rfl) (by kernel_rfl) (by kernel_rfl) (fun _ _ _ h => h) (by rfl) ?_ hHeld ?_
  rotate_left
  · (intro w hSw; (try dsimp only at hSw); go_simp; try with_reducible rfl)
  simp only [Act.put, List.setIfInBounds_toArray, List.set_cons_zero, List.set_cons_succ]
  refine take_at (i := 2) 47 (v := ?_) rfl rfl (by kernel_rfl) (by kernel_rfl) (by kernel_rfl) (fun _ _ _ h => h) (by rfl) ?_ hHeld ?_
  rotate_left
  · (intro w hSw; (try dsimp only at hSw); go_simp; try with_reducible rfl)
  simp only [Act.put, List.setIfInBounds_toArray, List.set_cons_zero, List.set_cons_succ]
  refine take_at (i := 3) 48 (v := ?_) rfl rfl (by kernel_rfl) (by kernel_rfl) (by kernel_rfl) (fun _ _ _ h => h) (by rfl) ?_ hHeld ?_
  rotate_left
  · (intro w hSw; (try dsimp only at hSw); go_simp; try with_reducible rfl)
  simp only [Act.put, List.setIfInBounds_toArray, List.set_cons_zero, List.set_cons_succ]
  refine take_at (i := 4) 49 (v := ?_) rfl rfl (by kernel_rfl) (by kernel_rfl) (by kernel_rfl) (fun _ _ _ h => h) (by rfl) ?_ hHeld ?_
  rotate_left
  · (intro w hSw; (try dsimp only at hSw); go_simp; try with_reducible rfl)
  simp only [Act.put, List.setIfInBounds_toArray, List.set_cons_zero, List.set_cons_succ]
  refine take_at (i := 5) 50 (v := ?_) rfl rfl (by kernel_rfl) (by kernel_rfl) (by kernel_rfl) (fun _ _ _ h => h) (by rfl) ?_ hHeld ?_
  rotate_left
  · (intro w hSw; (try dsimp only at hSw); go_simp; try with_reducible rfl)
  simp only [Act.put, List.setIfInBounds_toArray, List.set_cons_zero, List.set_cons_succ]
  refine take_at (i := 6) 51 (v := ?_) rfl rfl (by kernel_rfl) (by kernel_rfl) (by kernel_rfl) (fun _ _ _ h => h) (by rfl) ?_ hHeld ?_
  rotate_left
  · (intro w hSw; (try dsimp only at hSw); go_simp; try with_reducible rfl)
  simp only [Act.put, List.setIfInBounds_toArray, List.set_cons_zero, List.set_cons_succ]
  refine take_at (i := 7) 52 (v := ?_) rfl rfl (by kernel_rfl) (by kernel_rfl) (by kernel_rfl) (fun _ _ _ h => h) (by rfl) ?_ hHeld ?_
  rotate_left
  · (intro w hSw; (try dsimp only at hSw); go_simp; try with_reducible rfl)
  simp only [Act.put, List.setIfInBounds_toArray, List.set_cons_zero, List.set_cons_succ]
  refine take_at (i := 8) 53 (v := ?_) rfl rfl (by kernel_rfl) (by kernel_rfl) (by kernel_rfl) (fun _ _ _ h => h) (by rfl) ?_ hHeld ?_
  rotate_left
  · (intro w hSw; (try dsimp only at hSw); go_simp; try with_reducible rfl)
  simp only [Act.put, List.setIfInBounds_toArray, List.set_cons_zero, List.set_cons_succ]
  refine take_at (i := 9) 54 (v := (.slice (some ⟨g, j, none⟩) m (cap - j))) rfl rfl (by kernel_rfl) (by kernel_rfl) (by kernel_rfl) (fun _ _ _ h => h) (by rfl) ?_ hHeld ?_
  · (intro w hSw; rw [HM.out]; go_simp; try with_reducible rfl)
  simp only [Act.put, List.setIfInBounds_toArray, List.set_cons_zero, List.set_cons_succ]
  refine take_at (i := 10) 55 (v := ?_) rfl rfl (by kernel_rfl) (by kernel_rfl) (by kernel_rfl) (fun _ _ _ h => h) (by rfl) ?_ hHeld ?_
  rotate_left
  · (intro w hSw; (try dsimp only at hSw); go_simp; try with_reducible rfl)
  simp only [Act.put, List.setIfInBounds_toArray, List.set_cons_zero, List.set_cons_succ]
  refine take_at (i := 11) 56 (v := ?_) rfl rfl (by kernel_rfl) (by kernel_rfl) (by kernel_rfl) (fun _ _ _ h => h) (by rfl) ?_ hHeld ?_
  rotate_left
  · (intro w hSw; (try dsimp only at hSw); go_simp; try with_reducible rfl)
  simp only [Act.put, List.setIfInBounds_toArray, List.set_cons_zero, List.set_cons_succ]
  refine take_at (i := 12) 10 (v := ?_) rfl rfl (by kernel_rfl) (by kernel_rfl) (by kernel_rfl) (fun _ _ _ h => h) (by rfl) ?_ hHeld ?_
  rotate_left
  · (intro w hSw; (try dsimp only at hSw); go_simp; try with_reducible rfl)
  simp only [Act.put, List.setIfInBounds_toArray, List.set_cons_zero, List.set_cons_succ]
  refine wpAnyH_done (by kernel_rfl) ?_ _
  refine NoPanic.normal ?_
  obtain ⟨w3, hcp, hr3, hg3⟩ := copy_run (w := w.drew) (off := i) (dLen := k - i) (sLen := 1) (sCap := 1) (ad := ⟨gv, 0, none⟩) (RowL.drew HROW.out) [x] (by have := HK.out; have := HJ.out; simp only [Nat.min_def, List.length_cons, List.length_nil]; split <;> omega) (news1 (w := w.drew) HGV.out) (by rw [HCL.out]; have := HJ.out; simp; omega) HONE.out
  have HLEN : Hid ((splice cur i [x]).length = cap) := (show _ = _ by rw [splice_len (by rw [HCL.out]; have := HJ.out; simp; omega), HCL.out])
  have HR3 : Hid (RowL w3 g (splice cur i [x])) := hr3
  have HG3 : Hid (w.grownBy w3 (some g)) := grow_trans grow_drew hg3
  have HDR : Hid ((splice cur i [x]).drop j = cur.drop j) := (show _ = _ by
    have hh := HJ.out
    have hh3 := HCL.out
    unfold splice
    rw [← List.append_assoc, List.drop_append, List.drop_eq_nil_of_le (by rw [List.length_append, List.length_take]; simp; omega), List.nil_append, List.drop_drop, List.length_append, List.length_take]
    congr 1
    simp
    omega)
  clear hr3 hg3
  go_wp2_with fail
  clear hcp
  refine wp_region_noPanic ?_
  refine wp_region_held_drew (S := (fun _ => True)) (by kernel_rfl) (by exact trivial) (fun hHeld => ?_)
  refine take_at (i := 0) 98 (v := ?_) rfl rfl (by kernel_rfl) (by kernel_rfl) (by kernel_rfl) (fun _ _ _ h => h) (by rfl) ?_ hHeld ?_
  rotate_left
  · (intro w hSw; (try dsimp only at hSw); go_simp; try with_reducible rfl)
  simp only [Act.put, List.setIfInBounds_toArray, List.set_cons_zero, List.set_cons_succ]
  refine take_at (i := 1) 99 (v := ?_) rfl rfl (by kernel_rfl) (by kernel_rfl) (by kernel_rfl) (fun _ _ _ h => h) (by rfl) ?_ hHeld ?_
  rotate_left
  · (intro w hSw; (try dsimp only at hSw); go_simp; try with_reducible rfl)
  simp only [Act.put, List.setIfInBounds_toArray, List.set_cons_zero, List.set_cons_succ]
  refine take_at (i := 2) 100 (v := ?_) rfl rfl (by kernel_rfl) (by kernel_rfl) (by kernel_rfl) (fun _ _ _ h => h) (by rfl) ?_ hHeld ?_
  rotate_left
  · (intro w hSw; (try dsimp only at hSw); go_simp; try with_reducible rfl)
  simp only [Act.put, List.setIfInBounds_toArray, List.set_cons_zero, List.set_cons_succ]
  refine take_at (i := 3) 101 (v := ?_) rfl rfl (by kernel_rfl) (by kernel_rfl) (by kernel_rfl) (fun _ _ _ h => h) (by rfl) ?_ hHeld ?_
  rotate_left
  · (intro w hSw; (try dsimp only at hSw); go_simp; try with_reducible rfl)
  simp only [Act.put, List.setIfInBounds_toArray, List.set_cons_zero, List.set_cons_succ]
  refine take_at (i := 4) 102 (v := ?_) rfl rfl (by kernel_rfl) (by kernel_rfl) (by kernel_rfl) (fun _ _ _ h => h) (by rfl) ?_ hHeld ?_
  rotate_left
  · (intro w hSw; (try dsimp only at hSw); go_simp; try with_reducible rfl)
  simp only [Act.put, List.setIfInBounds_toArray, List.set_cons_zero, List.set_cons_succ]
  refine take_at (i := 5) 103 (v := ?_) rfl rfl (by kernel_rfl) (by kernel_rfl) (by kernel_rfl) (fun _ _ _ h => h) (by rfl) ?_ hHeld ?_
  rotate_left
  · (intro w hSw; (try dsimp only at hSw); go_simp; try with_reducible rfl)
  simp only [Act.put, List.setIfInBounds_toArray, List.set_cons_zero, List.set_cons_succ]
  refine take_at (i := 6) 104 (v := ?_) rfl rfl (by kernel_rfl) (by kernel_rfl) (by kernel_rfl) (fun _ _ _ h => h) (by rfl) ?_ hHeld ?_
  rotate_left
  · (intro w hSw; (try dsimp only at hSw); go_simp; try with_reducible rfl)
  simp only [Act.put, List.setIfInBounds_toArray, List.set_cons_zero, List.set_cons_succ]
  refine take_at (i := 7) 105 (v := ?_) rfl rfl (by kernel_rfl) (by kernel_rfl) (by kernel_rfl) (fun _ _ _ h => h) (by rfl) ?_ hHeld ?_
  rotate_left
  · (intro w hSw; (try dsimp only at hSw); go_simp; try with_reducible rfl)
  simp only [Act.put, List.setIfInBounds_toArray, List.set_cons_zero, List.set_cons_succ]
  refine take_at (i := 8) 106 (v := ?_) rfl rfl (by kernel_rfl) (by kernel_rfl) (by kernel_rfl) (fun _ _ _ h => h) (by rfl) ?_ hHeld ?_
  rotate_left
  · (intro w hSw; (try dsimp only at hSw); go_simp; try with_reducible rfl)
  simp only [Act.put, List.setIfInBounds_toArray, List.set_cons_zero, List.set_cons_succ]
  refine run_at (i := 9) rfl (by kernel_rfl) (by rfl) (fun K hK => ?_)
  simp only [List.getElem_toArray, List.getElem_cons_zero, List.getElem_cons_succ]
  (refine wpo_copy _ _ rfl g i1 _ _ _ _ _ rfl rfl _ (RowL.drew HR3.out) (vs.drop j) (by rw [List.length_drop, HVL.out]; have := HI1.out; have := HJ.out; have := HK.out; simp only [Nat.min_def]; split <;> omega) (fun t u ht => RowL.src (RowL.drew HR3.out) j (n - j) t u (by rw [HDR.out]; rw [← HTK.out, List.drop_take] at ht; exact ht)) (by rw [List.length_drop, HVL.out, HLEN.out]; have := HI1.out; have := HJ.out; have := HK.out; omega) (fun u hx => HU.out u (List.mem_of_mem_drop hx)) ?_; intro w4 hr4 hg4; have HR4 : Hid _ := hr4; have HG4 : Hid _ := hg4; clear hr4 hg4)
  refine hK.out _ _ (by exact trivial) ?_
  clear hK K
  intro hHeld2
  clear hHeld
  have hHeld := hHeld2
  clear hHeld2
  try simp only [Act.put, List.setIfInBounds_toArray, List.set_cons_zero, List.set_cons_succ]
  refine wpAnyH_done (by kernel_rfl) ?_ _
  refine NoPanic.normal ?_
  have HLEN4 : Hid ((splice (splice cur i [x]) i1 (vs.drop j)).length = cap) := (show _ = _ by rw [splice_len (by rw [List.length_drop, HVL.out, HLEN.out]; have := HI1.out; have := HJ.out; have := HK.out; omega), HLEN.out])
  obtain ⟨w5, hcl5, hr5, hg5⟩ := clear_run (k := k) (m := n - k) HR4.out (by have := HK.out; omega) (by rw [HLEN4.out]; omega)
  have HR5 : Hid _ := hr5
  have HG5 : Hid _ := hg5
  clear hr5 hg5
  go_wp2
  go_ret
  have hh := HI1.out
  have hh2 := HJ.out
  have hh3 := HK.out
  refine ⟨rfl, row_shut HR5.out ?_ ?_ (by omega) HCM.out (Nat.zero_le _), grow_trans HG3.out (grow_trans grow_drew (grow_trans HG4.out HG5.out))⟩
  · rw [splice_len (by rw [List.length_replicate, HLEN4.out]; omega), HLEN4.out]
  · rw [splice_take (by rw [HLEN4.out]; omega), splice_take2 (by rw [HLEN.out]; omega) (by rw [List.length_drop, HVL.out]; omega), splice_take2 (by rw [HCL.out]; omega) (by simp; omega), take_of_take HTK.out (by omega)]
    rfl
end
end Go.Proofs.Ytibolgpaolnheaa
namespace Go.Proofs.Ytibolgpaolnheaa
set_option linter.unusedVariables false
set_option linter.unusedSimpArgs false
open Go.RowKit
variable {w : World} {g n cap : Nat} {vs : List Value}
/-- a page becomes two -/
theorem split_t (h : w.ownsRow 0 tPg 1 (.slice (some ⟨g, 0, none⟩) n cap) n vs) (hu : ∀ u ∈ vs, u.oneCell' = true) (i j : Nat) (hj : j = i + 1) (hi : i < n) (gv : Nat) (x y : Value) (hgv : w.heap[gv]? = some (.cells #[x, y] tPg (0, 0))) (hgg : g ≠ gv) (hx1 : x.oneCell' = true) (hy1 : y.oneCell' = true) (hl : n ≤ 4398046511104) :
    Calls Try.prog 60 #[.slice (some ⟨g, 0, none⟩) n cap, .int .i64 (i : Int), .int .i64 (j : Int), .slice (some ⟨gv, 0, none⟩) 2 2] w fun e w' => ∃ g' cap', e = .returned (.slice (some ⟨g', 0, none⟩) (n + 1) cap') ∧ w'.ownsRow 0 tPg 1 (.slice (some ⟨g', 0, none⟩) (n + 1) cap') (n + 1) (repL vs i j [x, y]) ∧ w.grownBy w' (some g) ∧ (g' = g ∨ w.heap.size ≤ g') := by
  have hcn : n ≤ cap := by obtain ⟨_, _, _, _, h9, _⟩ := row_open h; exact h9
  by_cases hjn : j = n
  · subst hjn
    exact splitA h i hj gv x y hgv hx1 hy1 hl
  · by_cases hr : n + 1 ≤ cap
    · refine (splitC h hu i j (n + 1) hj (by omega) rfl hr gv x y hgv hgg hx1 hy1 hl).mono ?_
      rintro e w' ⟨rfl, h1, h2⟩
      exact ⟨g, cap, rfl, h1, h2, .inl rfl⟩
    · obtain rfl : cap = n := by omega
      refine (splitB h hu i j (cap + 1) hj (by omega) rfl gv x y hgv hx1 hy1 hl).mono ?_
      rintro e w' ⟨g', c', rfl, h1, h2, h3⟩
      exact ⟨g', c', rfl, h1, h2, .inr h3⟩
/-- two pages become one -/
theorem join_t (h : w.ownsRow 0 tPg 1 (.slice (some ⟨g, 0, none⟩) n cap) n vs) (hu : ∀ u ∈ vs, u.oneCell' = true) (i j k : Nat) (hj : j = i + 2) (hjn : j ≤ n) (hk : n = k + 1) (gv : Nat) (x : Value) (hgv : w.heap[gv]? = some (.cells #[x] tPg (0, 0))) (hgg : g ≠ gv) (hx1 : x.oneCell' = true) (hl : n ≤ 4398046511104) :
    Calls Try.prog 60 #[.slice (some ⟨g, 0, none⟩) n cap, .int .i64 (i : Int), .int .i64 (j : Int), .slice (some ⟨gv, 0, none⟩) 1 1] w fun e w' => e = .returned (.slice (some ⟨g, 0, none⟩) k cap) ∧ w'.ownsRow 0 tPg 1 (.slice (some ⟨g, 0, none⟩) k cap) k (repL vs i j [x]) ∧ w.grownBy w' (some g) := by
  by_cases hjn2 : j = n
  · have h9 := joinA h hu i j k hj hjn2 hk gv x hgv hgg hx1 hl
    subst hjn2
    exact h9
  · exact joinD h hu i j k hj (by omega) hk gv x hgv hgg hx1 hl
end Go.Proofs.Ytibolgpaolnheaa
