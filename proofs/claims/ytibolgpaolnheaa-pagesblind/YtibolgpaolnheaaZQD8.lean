import Derived.Test.YtibolgpaolnheaaQD9
import Derived.Test.YtibolgpaolnheaaZQD7
namespace Go.Proofs.Ytibolgpaolnheaa.Str
set_option linter.unusedVariables false
set_option linter.unusedSimpArgs false
open Go.RowKit
section
set_option maxRecDepth 20000
set_option maxHeartbeats 3200000
variable {w : World} {g n cap : Nat} {vs : List Value}
theorem news1 {gv : Nat} {x : Value} (hgv : w.heap[gv]? = some (.cells #[x] tPg (0, 0))) : ∀ t u, [x][t]? = some u → w.cell? ((⟨gv, 0, none⟩ : Addr).add t) = some u := World.news_of_block hgv
/-- the last two pages become one -/
theorem joinA (h : w.ownsRow 0 tPg 1 (.slice (some ⟨g, 0, none⟩) n cap) n vs) (hu : ∀ u ∈ vs, u.oneCell' = true) (i j k : Nat) (hj : j = i + 2) (hjn : j = n) (hk : n = k + 1) (gv : Nat) (x : Value) (hgv : w.heap[gv]? = some (.cells #[x] tPg (0, 0))) (hgg : g ≠ gv) (hx1 : x.oneCell' = true) (hl : n ≤ 4398046511104) :
    Calls Try.prog 63 #[.slice (some ⟨g, 0, none⟩) n cap, .int .i64 (i : Int), .int .i64 (n : Int), .slice (some ⟨gv, 0, none⟩) 1 1] w fun e w' => e = .returned (.slice (some ⟨g, 0, none⟩) k cap) ∧ w'.ownsRow 0 tPg 1 (.slice (some ⟨g, 0, none⟩) k cap) k (repL vs i n [x]) ∧ w.grownBy w' (some g) := by
  obtain ⟨cur, hrow, hcl, htk, hnc, hcm, hvl, -⟩ := row_open h
  have HVL : Hid _ := hvl
  have HROW : Hid (RowL w g cur) := hrow
  have HCL : Hid _ := hcl
  have HTK : Hid _ := htk
  have HCM : Hid _ := hcm
  have HGV : Hid (w.heap[gv]? = some (.cells #[x] tPg (0, 0))) := hgv
  have HU : Hid _ := hu
  have HONE : Hid (∀ u ∈ [x], u.oneCell' = true) := fun u hu => by
    obtain rfl := List.mem_singleton.1 hu; exact hx1
  obtain ⟨i1, hi1⟩ : ∃ i1, i1 = i + 1 := ⟨_, rfl⟩
  have hw1 : IntKind.i64.wrap ((i : Int) + 1) = (i1 : Int) := by rw [IntKind.wrap_i64]; omega
  have hi0 : (0 : Int) ≤ (i : Int) := by omega
  have hj0 : (0 : Int) ≤ (j : Int) := by omega
  have hk0 : (0 : Int) ≤ (k : Int) := by omega
  have hi10 : (0 : Int) ≤ (i1 : Int) := by omega
  have hij : (i : Int) ≤ (j : Int) := by omega
  have hijn : i ≤ j := by omega
  have hjnI : (j : Int) ≤ (n : Int) := by omega
  have hjnn : j ≤ n := by omega
  have hinn : i ≤ n := by omega
  have hin : (i : Int) ≤ (n : Int) := by omega
  have hncI : (n : Int) ≤ (cap : Int) := by omega
  have hic : (i : Int) ≤ (cap : Int) := by omega
  have hicn : i ≤ cap := by omega
  have hjc : (j : Int) ≤ (cap : Int) := by omega
  have hjcn : j ≤ cap := by omega
  have hci : ¬ cap = i := by omega
  have hck : (k : Int) ≤ (cap : Int) := by omega
  have hckn : k ≤ cap := by omega
  have hckne : ¬ cap = k := by omega
  have hknI : (k : Int) ≤ (n : Int) := by omega
  have hkltI : (k : Int) < (n : Int) := by omega
  have hknn : k ≤ n := by omega
  have hgt : ¬ ((cap : Int) < (k : Int)) := by omega
  have hi1k : (i1 : Int) ≤ (k : Int) := by omega
  have hi1kn : i1 ≤ k := by omega
  have hci1 : ¬ cap = i1 := by omega
  have hik : (i : Int) ≤ (k : Int) := by omega
  have hikn : i ≤ k := by omega
  have hi1j : ((i1 : Int) ≤ (j : Int)) := by omega
  have hne : ¬ (i : Int) = (j : Int) := by omega
  have hneb : ((i : Int) == (j : Int)) = false := by simpa using hne
  have HJ : Hid (j = i + 2) := hj
  have HK : Hid (n = k + 1) := hk
  have HI1 : Hid (i1 = i + 1) := hi1
  subst hjn
  clear h hrow hcl htk hcm hvl hgv hx1 hj hk hi1 hu
  go_enter Try.func63, Try.ntmps63
  go_wp2_with (at_builtin; refine wpl_room rfl _ _ rfl g i cap cur HROW.out rfl ⟨gv, 0, none⟩ 1 1 rfl [x] rfl (news1 HGV.out) HONE.out (by have := HJ.out; omega) HCL.out k (by have := HJ.out; have := HK.out; omega) ?_; intro w2 hr2 hg2; obtain ⟨w3, hcl3, hr3, hg3⟩ := clear_run (k := k) (m := j - k) hr2 (by have := HK.out; omega) (by rw [splice_len (by rw [HCL.out]; have := HJ.out; simp; omega), HCL.out]; omega); have HG2 : Hid _ := hg2; have HR3 : Hid _ := hr3; have HG3 : Hid _ := hg3; clear hr2 hg2 hr3 hg3)
  go_ret
  have hh := HJ.out
  have hh2 := HK.out
  have hlen : (splice cur i [x]).length = cap := by rw [splice_len (by rw [HCL.out]; simp; omega), HCL.out]
  refine ⟨rfl, row_shut HR3.out ?_ ?_ (by omega) HCM.out (Nat.zero_le _), grow_trans HG2.out HG3.out⟩
  · rw [splice_len (by rw [List.length_replicate, hlen]; omega), hlen]
  · rw [splice_take (by rw [hlen]; omega), splice_take2 (by rw [HCL.out]; omega) (by simp; omega), take_of_take HTK.out (by omega)]
    unfold repL
    rw [List.drop_eq_nil_of_le (by rw [HVL.out]; exact Nat.le_refl _), List.append_nil]
/-- two pages in the midst become one -/
theorem joinD (h : w.ownsRow 0 tPg 1 (.slice (some ⟨g, 0, none⟩) n cap) n vs) (hu : ∀ u ∈ vs, u.oneCell' = true) (i j k : Nat) (hj : j = i + 2) (hjn : j < n) (hk : n = k + 1) (gv : Nat) (x : Value) (hgv : w.heap[gv]? = some (.cells #[x] tPg (0, 0))) (hgg : g ≠ gv) (hx1 : x.oneCell' = true) (hl : n ≤ 4398046511104) :
    Calls Try.prog 63 #[.slice (some ⟨g, 0, none⟩) n cap, .int .i64 (i : Int), .int .i64 (j : Int), .slice (some ⟨gv, 0, none⟩) 1 1] w fun e w' => e = .returned (.slice (some ⟨g, 0, none⟩) k cap) ∧ w'.ownsRow 0 tPg 1 (.slice (some ⟨g, 0, none⟩) k cap) k (repL vs i j [x]) ∧ w.grownBy w' (some g) := by
  obtain ⟨cur, hrow, hcl, htk, hnc, hcm, hvl, -⟩ := row_open h
  have HVL : Hid _ := hvl
  have HROW : Hid (RowL w g cur) := hrow
  have HCL : Hid _ := hcl
  have HTK : Hid _ := htk
  have HCM : Hid _ := hcm
  have HGV : Hid (w.heap[gv]? = some (.cells #[x] tPg (0, 0))) := hgv
  have HU : Hid _ := hu
  have HONE : Hid (∀ u ∈ [x], u.oneCell' = true) := fun u hu => by
    obtain rfl := List.mem_singleton.1 hu; exact hx1
  obtain ⟨i1, hi1⟩ : ∃ i1, i1 = i + 1 := ⟨_, rfl⟩
  have hw1 : IntKind.i64.wrap ((i : Int) + 1) = (i1 : Int) := by rw [IntKind.wrap_i64]; omega
  have hi0 : (0 : Int) ≤ (i : Int) := by omega
  have hj0 : (0 : Int) ≤ (j : Int) := by omega
  have hk0 : (0 : Int) ≤ (k : Int) := by omega
  have hi10 : (0 : Int) ≤ (i1 : Int) := by omega
  have hij : (i : Int) ≤ (j : Int) := by omega
  have hijn : i ≤ j := by omega
  have hjnI : (j : Int) ≤ (n : Int) := by omega
  have hjnn : j ≤ n := by omega
  have hinn : i ≤ n := by omega
  have hin : (i : Int) ≤ (n : Int) := by omega
  have hncI : (n : Int) ≤ (cap : Int) := by omega
  have hic : (i : Int) ≤ (cap : Int) := by omega
  have hicn : i ≤ cap := by omega
  have hjc : (j : Int) ≤ (cap : Int) := by omega
  have hjcn : j ≤ cap := by omega
  have hci : ¬ cap = i := by omega
  have hck : (k : Int) ≤ (cap : Int) := by omega
  have hckn : k ≤ cap := by omega
  have hckne : ¬ cap = k := by omega
  have hknI : (k : Int) ≤ (n : Int) := by omega
  have hkltI : (k : Int) < (n : Int) := by omega
  have hknn : k ≤ n := by omega
  have hgt : ¬ ((cap : Int) < (k : Int)) := by omega
  have hi1k : (i1 : Int) ≤ (k : Int) := by omega
  have hi1kn : i1 ≤ k := by omega
  have hci1 : ¬ cap = i1 := by omega
  have hik : (i : Int) ≤ (k : Int) := by omega
  have hikn : i ≤ k := by omega
  have hi1j : ((i1 : Int) ≤ (j : Int)) := by omega
  have hne : ¬ (i : Int) = (j : Int) := by omega
  have hneb : ((i : Int) == (j : Int)) = false := by simpa using hne
  have hcj : ¬ cap = j := by omega
  have hne2 : ¬ (j : Int) = (n : Int) := by omega
  have hneb2 : ((j : Int) == (n : Int)) = false := by simpa using hne2
  obtain ⟨m, hm⟩ : ∃ m, m = n - j := ⟨_, rfl⟩
  have hw2 : IntKind.i64.wrap ((i1 : Int) + (m : Int)) = (k : Int) := by rw [IntKind.wrap_i64]; omega
  have HM : Hid (m = n - j) := hm
  have HJ : Hid (j = i + 2) := hj
  have HK : Hid (n = k + 1) := hk
  have HI1 : Hid (i1 = i + 1) := hi1
  clear hm h hrow hcl htk hcm hvl hgv hx1 hj hk hi1 hu
  go_enter Try.func63, Try.ntmps63
  go_wp2_with fail
  refine wp_region_noPanic ?_
  refine wp_region_held_drew (S := (fun _ => True)) (by kernel_rfl) (by exact trivial) (fun hHeld => ?_)
  refine take_at (i := 0) 45 (v := ?_) rfl rfl (by kernel_rfl) (by kernel_rfl) (by kernel_rfl) (fun _ _ _ h => h) (by rfl) ?_ hHeld ?_
  rotate_left
  · (intro w hSw; (try dsimp only at hSw); go_simp; try with_reducible rfl)
  simp only [Act.put, List.setIfInBounds_toArray, List.set_cons_zero, List.set_cons_succ]
  refine take_at (i := 1) 46 (v := ?_) rfl rfl (by kernel_rfl) (by kernel_rfl) (by kernel_rfl) (fun _ _ _ h => h) (by rfl) ?_ hHeld ?_
  rotate_left
  · (intro w hSw; (try dsimp only at hSw); go_simp; try with_reducible rfl)
  simp only [Act.put, List.setIfInBounds_toArray, List.set_cons_zero, List.set_cons_succ]
  refine take_at (i := 2) 47 (v := ?_) rfl rfl (by kernel_rfl) (by kernel_rfl) (by kernel_rfl) (fun _ _ _ h => h) (by rfl) ?_ hHeld ?_
  rotate_left
  · (intro w hSw; (try dsimp only at hSw); go_simp; try with_reducible rfl)
  simp only [Act.put, List.setIfInBounds_toArray, List.set_cons_zero, List.set_cons_succ]
  refine take_at (i := 3) 48 (v := ?_) rfl rfl (by kernel_rfl) (by kernel_rfl) (by kernel_rfl) (fun _ _ _ h => h) (by rfl) ?_ hHeld ?_
  rotate_left
  · (intro w hSw; (try dsimp only at hSw); go_simp; try with_reducible rfl)
  simp only [Act.put, List.setIfInBounds_toArray, List.set_cons_zero, List.set_cons_succ]
  refine take_at (i := 4) 49 (v := ?_) rfl rfl (by kernel_rfl) (by kernel_rfl) (by kernel_rfl) (fun _ _ _ h => h) (by rfl) ?_ hHeld ?_
  rotate_left
  · (intro w hSw; (try dsimp only at hSw); go_simp; try with_reducible rfl)
  simp only [Act.put, List.setIfInBounds_toArray, List.set_cons_zero, List.set_cons_succ]
  refine take_at (i := 5) 50 (v := ?_) rfl rfl (by kernel_rfl) (by kernel_rfl) (by kernel_rfl) (fun _ _ _ h => h) (by rfl) ?_ hHeld ?_
  rotate_left
  · (intro w hSw; (try dsimp only at hSw); go_simp; try with_reducible rfl)
  simp only [Act.put, List.setIfInBounds_toArray, List.set_cons_zero, List.set_cons_succ]
  refine take_at (i := 6) 51 (v := ?_) rfl rfl (by kernel_rfl) (by kernel_rfl) (by kernel_rfl) (fun _ _ _ h => h) (by rfl) ?_ hHeld ?_
  rotate_left
  · (intro w hSw; (try dsimp only at hSw); go_simp; try with_reducible rfl)
  simp only [Act.put, List.setIfInBounds_toArray, List.set_cons_zero, List.set_cons_succ]
  refine take_at (i := 7) 52 (v := ?_) rfl rfl (by kernel_rfl) (by kernel_rfl) (by kernel_rfl) (fun _ _ _ h => h) (by rfl) ?_ hHeld ?_
  rotate_left
  · (intro w hSw; (try dsimp only at hSw); go_simp; try with_reducible rfl)
  simp only [Act.put, List.setIfInBounds_toArray, List.set_cons_zero, List.set_cons_succ]
  refine take_at (i := 8) 53 (v := ?_) rfl rfl (by kernel_rfl) (by kernel_rfl) (by kernel_rfl) (fun _ _ _ h => h) (by rfl) ?_ hHeld ?_
  rotate_left
  · (intro w hSw; (try dsimp only at hSw); go_simp; try with_reducible rfl)
  simp only [Act.put, List.setIfInBounds_toArray, List.set_cons_zero, List.set_cons_succ]
  refine take_at (i := 9) 54 (v := (.slice (some ⟨g, j, none⟩) m (cap - j))) rfl rfl (by kernel_rfl) (by kernel_rfl) (by kernel_rfl) (fun _ _ _ h => h) (by rfl) ?_ hHeld ?_
  · (intro w hSw; rw [HM.out]; go_simp; try with_reducible rfl)
  simp only [Act.put, List.setIfInBounds_toArray, List.set_cons_zero, List.set_cons_succ]
  refine take_at (i := 10) 55 (v := ?_) rfl rfl (by kernel_rfl) (by kernel_rfl) (by kernel_rfl) (fun _ _ _ h => h) (by rfl) ?_ hHeld ?_
  rotate_left
  · (intro w hSw; (try dsimp only at hSw); go_simp; try with_reducible rfl)
  simp only [Act.put, List.setIfInBounds_toArray, List.set_cons_zero, List.set_cons_succ]
  refine take_at (i := 11) 56 (v := ?_) rfl rfl (by kernel_rfl) (by kernel_rfl) (by kernel_rfl) (fun _ _ _ h => h) (by rfl) ?_ hHeld ?_
  rotate_left
  · (intro w hSw; (try dsimp only at hSw); go_simp; try with_reducible rfl)
  simp only [Act.put, List.setIfInBounds_toArray, List.set_cons_zero, List.set_cons_succ]
  refine take_at (i := 12) 10 (v := ?_) rfl rfl (by kernel_rfl) (by kernel_rfl) (by kernel_rfl) (fun _ _ _ h => h) (by rfl) ?_ hHeld ?_
  rotate_left
  · (intro w hSw; (try dsimp only at hSw); go_simp; try with_reducible rfl)
  simp only [Act.put, List.setIfInBounds_toArray, List.set_cons_zero, List.set_cons_succ]
  refine wpAnyH_done (by kernel_rfl) ?_ _
  refine NoPanic.normal ?_
  obtain ⟨w3, hcp, hr3, hg3⟩ := copy_run (w := w.drew) (off := i) (dLen := k - i) (sLen := 1) (sCap := 1) (ad := ⟨gv, 0, none⟩) (RowL.drew HROW.out) [x] (by have := HK.out; have := HJ.out; simp only [Nat.min_def, List.length_cons, List.length_nil]; split <;> omega) (news1 (w := w.drew) HGV.out) (by rw [HCL.out]; have := HJ.out; simp; omega) HONE.out
  have HLEN : Hid ((splice cur i [x]).length = cap) := (show _ = _ by rw [splice_len (by rw [HCL.out]; have := HJ.out; simp; omega), HCL.out])
  have HR3 : Hid (RowL w3 g (splice cur i [x])) := hr3
  have HG3 : Hid (w.grownBy w3 (some g)) := grow_trans grow_drew hg3
  have HDR : Hid ((splice cur i [x]).drop j = cur.drop j) := (show _ = _ by
    have hh := HJ.out
    have hh3 := HCL.out
    unfold splice
    rw [← List.append_assoc, List.drop_append, List.drop_eq_nil_of_le (by rw [List.length_append, List.length_take]; simp; omega), List.nil_append, List.drop_drop, List.length_append, List.length_take]
    congr 1
    simp
    omega)
  clear hr3 hg3
  go_wp2_with fail
  clear hcp
  refine wp_region_noPanic ?_
  refine wp_region_held_drew (S := (fun _ => True)) (by kernel_rfl) (by exact trivial) (fun hHeld => ?_)
  refine take_at (i := 0) 98 (v := ?_) rfl rfl (by kernel_rfl) (by kernel_rfl) (by kernel_rfl) (fun _ _ _ h => h) (by rfl) ?_ hHeld ?_
  rotate_left
  · (intro w hSw; (try dsimp only at hSw); go_simp; try with_reducible rfl)
  simp only [Act.put, List.setIfInBounds_toArray, List.set_cons_zero, List.set_cons_succ]
  refine take_at (i := 1) 99 (v := ?_) rfl rfl (by kernel_rfl) (by kernel_rfl) (by kernel_rfl) (fun _ _ _ h => h) (by rfl) ?_ hHeld ?_
  rotate_left
  · (intro w hSw; (try dsimp only at hSw); go_simp; try with_reducible rfl)
  simp only [Act.put, List.setIfInBounds_toArray, List.set_cons_zero, List.set_cons_succ]
  refine take_at (i := 2) 100 (v := ?_) rfl rfl (by kernel_rfl) (by kernel_rfl) (by kernel_rfl) (fun _ _ _ h => h) (by rfl) ?_ hHeld ?_
  rotate_left
  · (intro w hSw; (try dsimp only at hSw); go_simp; try with_reducible rfl)
  simp only [Act.put, List.setIfInBounds_toArray, List.set_cons_zero, List.set_cons_succ]
  refine take_at (i := 3) 101 (v := ?_) rfl rfl (by kernel_rfl) (by kernel_rfl) (by kernel_rfl) (fun _ _ _ h => h) (by rfl) ?_ hHeld ?_
  rotate_left
  · (intro w hSw; (try dsimp only at hSw); go_simp; try with_reducible rfl)
  simp only [Act.put, List.setIfInBounds_toArray, List.set_cons_zero, List.set_cons_succ]
  refine take_at (i := 4) 102 (v := ?_) rfl rfl (by kernel_rfl) (by kernel_rfl) (by kernel_rfl) (fun _ _ _ h => h) (by rfl) ?_ hHeld ?_
  rotate_left
  · (intro w hSw; (try dsimp only at hSw); go_simp; try with_reducible rfl)
  simp only [Act.put, List.setIfInBounds_toArray, List.set_cons_zero, List.set_cons_succ]
  refine take_at (i := 5) 103 (v := ?_) rfl rfl (by kernel_rfl) (by kernel_rfl) (by kernel_rfl) (fun _ _ _ h => h) (by rfl) ?_ hHeld ?_
  rotate_left
  · (intro w hSw; (try dsimp only at hSw); go_simp; try with_reducible rfl)
  simp only [Act.put, List.setIfInBounds_toArray, List.set_cons_zero, List.set_cons_succ]
  refine take_at (i := 6) 104 (v := ?_) rfl rfl (by kernel_rfl) (by kernel_rfl) (by kernel_rfl) (fun _ _ _ h => h) (by rfl) ?_ hHeld ?_
  rotate_left
  · (intro w hSw; (try dsimp only at hSw); go_simp; try with_reducible rfl)
  simp only [Act.put, List.setIfInBounds_toArray, List.set_cons_zero, List.set_cons_succ]
  refine take_at (i := 7) 105 (v := ?_) rfl rfl (by kernel_rfl) (by kernel_rfl) (by kernel_rfl) (fun _ _ _ h => h) (by rfl) ?_ hHeld ?_
  rotate_left
  · (intro w hSw; (try dsimp only at hSw); go_simp; try with_reducible rfl)
  simp only [Act.put, List.setIfInBounds_toArray, List.set_cons_zero, List.set_cons_succ]
  refine take_at (i := 8) 106 (v := ?_) rfl rfl (by kernel_rfl) (by kernel_rfl) (by kernel_rfl) (fun _ _ _ h => h) (by rfl) ?_ hHeld ?_
  rotate_left
  · (intro w hSw; (try dsimp only at hSw); go_simp; try with_reducible rfl)
  simp only [Act.put, List.setIfInBounds_toArray, List.set_cons_zero, List.set_cons_succ]
  refine run_at (i := 9) rfl (by kernel_rfl) (by rfl) (fun K hK => ?_)
  simp only [List.getElem_toArray, List.getElem_cons_zero, List.getElem_cons_succ]
  (refine wpo_copy _ _ rfl g i1 _ _ _ _ _ rfl rfl _ (RowL.drew HR3.out) (vs.drop j) (by rw [List.length_drop, HVL.out]; have := HI1.out; have := HJ.out; have := HK.out; simp only [Nat.min_def]; split <;> omega) (fun t u ht => RowL.src (RowL.drew HR3.out) j (n - j) t u (by rw [HDR.out]; rw [← HTK.out, List.drop_take] at ht; exact ht)) (by rw [List.length_drop, HVL.out, HLEN.out]; have := HI1.out; have := HJ.out; have := HK.out; omega) (fun u hx => HU.out u (List.mem_of_mem_drop hx)) ?_; intro w4 hr4 hg4; have HR4 : Hid _ := hr4; have HG4 : Hid _ := hg4; clear hr4 hg4)
  refine hK.out _ _ (by exact trivial) ?_
  clear hK K
  intro hHeld2
  clear hHeld
  have hHeld := hHeld2
  clear hHeld2
  try simp only [Act.put, List.setIfInBounds_toArray, List.set_cons_zero, List.set_cons_succ]
  refine wpAnyH_done (by kernel_rfl) ?_ _
  refine NoPanic.normal ?_
  have HLEN4 : Hid ((splice (splice cur i [x]) i1 (vs.drop j)).length = cap) := (show _ = _ by rw [splice_len (by rw [List.length_drop, HVL.out, HLEN.out]; have := HI1.out; have := HJ.out; have := HK.out; omega), HLEN.out])
  obtain ⟨w5, hcl5, hr5, hg5⟩ := clear_run (k := k) (m := n - k) HR4.out (by have := HK.out; omega) (by rw [HLEN4.out]; omega)
  have HR5 : Hid _ := hr5
  have HG5 : Hid _ := hg5
  clear hr5 hg5
  go_wp2
  go_ret
  have hh := HI1.out
  have hh2 := HJ.out
  have hh3 := HK.out
  refine ⟨rfl, row_shut HR5.out ?_ ?_ (by omega) HCM.out (Nat.zero_le _), grow_trans HG3.out (grow_trans grow_drew (grow_trans HG4.out HG5.out))⟩
  · rw [splice_len (by rw [List.length_replicate, HLEN4.out]; omega), HLEN4.out]
  · rw [splice_take (by rw [HLEN4.out]; omega), splice_take2 (by rw [HLEN.out]; omega) (by rw [List.length_drop, HVL.out]; omega), splice_take2 (by rw [HCL.out]; omega) (by simp; omega), take_of_take HTK.out (by omega)]
    rfl
end
end Go.Proofs.Ytibolgpaolnheaa.Str
