import Derived.Test.YtibolgpaolnheaaQD3
import Derived.Laws.Externs
namespace Go.Proofs.Ytibolgpaolnheaa
set_option linter.unusedVariables false
set_option linter.unusedSimpArgs false
open Go.RowKit
section
set_option maxRecDepth 20000
set_option maxHeartbeats 3200000
variable {w : World} {g n cap : Nat} {vs : List Value}
theorem size_pg (u : World) : (Go.sizeOf tPg).run Try.prog u = .ok 1 u := by
  obtain ⟨i0, hi, hz0, hz1, hz2⟩ := info_parts info_pg
  simp [sizeOf, typeInfo, hi, hz1]
theorem over_run (u : World) (gv g i m c cv : Nat) (cur : List Value) (hrow : RowL u g cur) (hc : 0 < cur.length) (x y : Value) (hgv : u.heap[gv]? = some (.cells #[x, y] tPg (0, 0))) (hne : g ≠ gv) (args : Array Value) (ha : args = #[.slice (some ⟨g, i, none⟩) m c, .slice (some ⟨gv, 0, none⟩) 2 cv]) :
    (callFunc 71 args).run Try.prog u = .ok (.value (.bool false)) u := by
  subst ha
  rw [run_callFunc_extern Try.func71 (by kernel_rfl) (by kernel_rfl) (by kernel_rfl) (e := Extern.SlicesOverlaps.overlaps #[tPsl, tPsl] #[4]) (by kernel_rfl),
    Lib.run_overlaps_apart u tPsl 4 tPg Try.underlying71 1 size_pg ⟨g, i, none⟩ ⟨gv, 0, none⟩ m c 2 cv hne tPg tPg cur.length 2 (by unfold RowL at hrow; simp [World.shape?, hrow]) (by simp [World.shape?, hgv]) (by decide) (hrow.thawed _) (hrow.thawed _)]
  rfl
end
end Go.Proofs.Ytibolgpaolnheaa
namespace Go.Proofs.Ytibolgpaolnheaa
set_option linter.unusedVariables false
set_option linter.unusedSimpArgs false
open Go.RowKit
section
set_option maxRecDepth 20000
set_option maxHeartbeats 3200000
variable {w : World} {g n cap : Nat} {vs : List Value}
/-- a page in the midst becomes two, and there is room -/
theorem splitC (h : w.ownsRow 0 tPg 1 (.slice (some ⟨g, 0, none⟩) n cap) n vs) (hu : ∀ u ∈ vs, u.oneCell' = true) (i j k : Nat) (hj : j = i + 1) (hjn : j < n) (hk : k = n + 1) (hroom : k ≤ cap) (gv : Nat) (x y : Value) (hgv : w.heap[gv]? = some (.cells #[x, y] tPg (0, 0))) (hgg : g ≠ gv) (hx1 : x.oneCell' = true) (hy1 : y.oneCell' = true) (hl : n ≤ 4398046511104) :
    Calls Try.prog 60 #[.slice (some ⟨g, 0, none⟩) n cap, .int .i64 (i : Int), .int .i64 (j : Int), .slice (some ⟨gv, 0, none⟩) 2 2] w fun e w' => e = .returned (.slice (some ⟨g, 0, none⟩) k cap) ∧ w'.ownsRow 0 tPg 1 (.slice (some ⟨g, 0, none⟩) k cap) k (repL vs i j [x, y]) ∧ w.grownBy w' (some g) := by
  obtain ⟨cur, hrow, hcl, htk, hnc, hcm, hvl, -⟩ := row_open h
  have HVL : Hid _ := hvl
  have HROW : Hid (RowL w g cur) := hrow
  have HCL : Hid _ := hcl
  have HTK : Hid _ := htk
  have HCM : Hid _ := hcm
  have HGV : Hid (w.heap[gv]? = some (.cells #[x, y] tPg (0, 0))) := hgv
  have HU : Hid _ := hu
  have HONE : Hid (∀ u ∈ [x, y], u.oneCell' = true) := fun u hu => by
    rcases List.mem_cons.1 hu with rfl | hu
    · exact hx1
    · obtain rfl := List.mem_singleton.1 hu; exact hy1
  obtain ⟨i2, hi2⟩ : ∃ i2, i2 = i + 2 := ⟨_, rfl⟩
  obtain ⟨m, hm⟩ : ∃ m, m = n - j := ⟨_, rfl⟩
  have hw1 : IntKind.i64.wrap ((i : Int) + 2) = (i2 : Int) := by rw [IntKind.wrap_i64]; omega
  have hw2 : IntKind.i64.wrap ((i2 : Int) + (m : Int)) = (k : Int) := by rw [IntKind.wrap_i64]; omega
  have hi0 : (0 : Int) ≤ (i : Int) := by omega
  have hj0 : (0 : Int) ≤ (j : Int) := by omega
  have hk0 : (0 : Int) ≤ (k : Int) := by omega
  have hi20 : (0 : Int) ≤ (i2 : Int) := by omega
  have hij : (i : Int) ≤ (j : Int) := by omega
  have hijn : i ≤ j := by omega
  have hjnI : (j : Int) ≤ (n : Int) := by omega
  have hjnn : j ≤ n := by omega
  have hinn : i ≤ n := by omega
  have hin : (i : Int) ≤ (n : Int) := by omega
  have hncI : (n : Int) ≤ (cap : Int) := by omega
  have hic : (i : Int) ≤ (cap : Int) := by omega
  have hicn : i ≤ cap := by omega
  have hjc : (j : Int) ≤ (cap : Int) := by omega
  have hjcn : j ≤ cap := by omega
  have hci : ¬ cap = i := by omega
  have hcj : ¬ cap = j := by omega
  have hci2 : ¬ cap = i2 := by omega
  have hck : (k : Int) ≤ (cap : Int) := by omega
  have hckn : k ≤ cap := by omega
  have hgt : ¬ ((cap : Int) < (k : Int)) := by omega
  have hi2k : (i2 : Int) ≤ (k : Int) := by omega
  have hi2kn : i2 ≤ k := by omega
  have hik : (i : Int) ≤ (k : Int) := by omega
  have hikn : i ≤ k := by omega
  have hi2j : ¬ ((i2 : Int) ≤ (j : Int)) := by omega
  have hne : ¬ (i : Int) = (j : Int) := by omega
  have hneb : ((i : Int) == (j : Int)) = false := by simpa using hne
  have hne2 : ¬ (j : Int) = (n : Int) := by omega
  have hneb2 : ((j : Int) == (n : Int)) = false := by simpa using hne2
  have HJ : Hid (j = i + 1) := hj
  have HK : Hid (k = n + 1) := hk
  have HI2 : Hid (i2 = i + 2) := hi2
  have HM : Hid (m = n - j) := hm
  clear hm h hrow hcl htk hcm hvl hgv hx1 hy1 hj hk hi2 hu
  go_enter Try.func60, Try.ntmps60
  go_wp2_with fail
  refine wp_region_noPanic ?_
  refine wp_region_held_drew (S := (fun _ => True)) (by kernel_rfl) (by exact trivial) (fun hHeld => ?_)
  refine take_at (i := 0) 45 (v := ?_) rfl rfl (by kernel_rfl) (by kernel_rfl) (by kernel_rfl) (fun _ _ _ h => h) (by rfl) ?_ hHeld ?_
  rotate_left
  · (intro w hSw; (try dsimp only at hSw); go_simp; try with_reducible rfl)
  simp only [Act.put, List.setIfInBounds_toArray, List.set_cons_zero, List.set_cons_succ]
  refine take_at (i := 1) 46 (v := ?_) rfl rfl (by kernel_rfl) (by kernel_rfl) (by kernel_rfl) (fun _ _ _ h => h) (by rfl) ?_ hHeld ?_
  rotate_left
  · (intro w hSw; (try dsimp only at hSw); go_simp; try with_reducible rfl)
  simp only [Act.put, List.setIfInBounds_toArray, List.set_cons_zero, List.set_cons_succ]
  refine take_at (i := 2) 47 (v := ?_) rfl rfl (by kernel_rfl) (by kernel_rfl) (by kernel_rfl) (fun _ _ _ h => h) (by rfl) ?_ hHeld ?_
  rotate_left
  · (intro w hSw; (try dsimp only at hSw); go_simp; try with_reducible rfl)
  simp only [Act.put, List.setIfInBounds_toArray, List.set_cons_zero, List.set_cons_succ]
  refine take_at (i := 3) 48 (v := ?_) rfl rfl (by kernel_rfl) (by kernel_rfl) (by kernel_rfl) (fun _ _ _ h => h) (by rfl) ?_ hHeld ?_
  rotate_left
  · (intro w hSw; (try dsimp only at hSw); go_simp; try with_reducible rfl)
  simp only [Act.put, List.setIfInBounds_toArray, List.set_cons_zero, List.set_cons_succ]
  refine take_at (i := 4) 49 (v := ?_) rfl rfl (by kernel_rfl) (by kernel_rfl) (by kernel_rfl) (fun _ _ _ h => h) (by rfl) ?_ hHeld ?_
  rotate_left
  · (intro w hSw; (try dsimp only at hSw); go_simp; try with_reducible rfl)
  simp only [Act.put, List.setIfInBounds_toArray, List.set_cons_zero, List.set_cons_succ]
  refine take_at (i := 5) 50 (v := ?_) rfl rfl (by kernel_rfl) (by kernel_rfl) (by kernel_rfl) (fun _ _ _ h => h) (by rfl) ?_ hHeld ?_
  rotate_left
  · (intro w hSw; (try dsimp only at hSw); go_simp; try with_reducible rfl)
  simp only [Act.put, List.setIfInBounds_toArray, List.set_cons_zero, List.set_cons_succ]
  refine take_at (i := 6) 51 (v := ?_) rfl rfl (by kernel_rfl) (by kernel_rfl) (by kernel_rfl) (fun _ _ _ h => h) (by rfl) ?_ hHeld ?_
  rotate_left
  · (intro w hSw; (try dsimp only at hSw); go_simp; try with_reducible rfl)
  simp only [Act.put, List.setIfInBounds_toArray, List.set_cons_zero, List.set_cons_succ]
  refine take_at (i := 7) 52 (v := ?_) rfl rfl (by kernel_rfl) (by kernel_rfl) (by kernel_rfl) (fun _ _ _ h => h) (by rfl) ?_ hHeld ?_
  rotate_left
  · (intro w hSw; (try dsimp only at hSw); go_simp; try with_reducible rfl)
  simp only [Act.put, List.setIfInBounds_toArray, List.set_cons_zero, List.set_cons_succ]
  refine take_at (i := 8) 53 (v := ?_) rfl rfl (by kernel_rfl) (by kernel_rfl) (by kernel_rfl) (fun _ _ _ h => h) (by rfl) ?_ hHeld ?_
  rotate_left
  · (intro w hSw; (try dsimp only at hSw); go_simp; try with_reducible rfl)
  simp only [Act.put, List.setIfInBounds_toArray, List.set_cons_zero, List.set_cons_succ]
  refine take_at (i := 9) 54 (v := (.slice (some ⟨g, j, none⟩) m (cap - j))) rfl rfl (by kernel_rfl) (by kernel_rfl) (by kernel_rfl) (fun _ _ _ h => h) (by rfl) ?_ hHeld ?_
  · (intro w hSw; rw [HM.out]; go_simp; try with_reducible rfl)
  simp only [Act.put, List.setIfInBounds_toArray, List.set_cons_zero, List.set_cons_succ]
  refine take_at (i := 10) 55 (v := ?_) rfl rfl (by kernel_rfl) (by kernel_rfl) (by kernel_rfl) (fun _ _ _ h => h) (by rfl) ?_ hHeld ?_
  rotate_left
  · (intro w hSw; (try dsimp only at hSw); go_simp; try with_reducible rfl)
  simp only [Act.put, List.setIfInBounds_toArray, List.set_cons_zero, List.set_cons_succ]
  refine take_at (i := 11) 56 (v := ?_) rfl rfl (by kernel_rfl) (by kernel_rfl) (by kernel_rfl) (fun _ _ _ h => h) (by rfl) ?_ hHeld ?_
  rotate_left
  · (intro w hSw; (try dsimp only at hSw); go_simp; try with_reducible rfl)
  simp only [Act.put, List.setIfInBounds_toArray, List.set_cons_zero, List.set_cons_succ]
  refine take_at (i := 12) 10 (v := ?_) rfl rfl (by kernel_rfl) (by kernel_rfl) (by kernel_rfl) (fun _ _ _ h => h) (by rfl) ?_ hHeld ?_
  rotate_left
  · (intro w hSw; (try dsimp only at hSw); go_simp; try with_reducible rfl)
  simp only [Act.put, List.setIfInBounds_toArray, List.set_cons_zero, List.set_cons_succ]
  refine wpAnyH_done (by kernel_rfl) ?_ _
  refine NoPanic.normal ?_
  have hov : ∀ m c, (callFunc 71 #[.slice (some ⟨g, i2, none⟩) m c, .slice (some ⟨gv, 0, none⟩) 2 2]).run Try.prog w.drew = .ok (.value (.bool false)) w.drew := fun m c => over_run w.drew gv g i2 m c 2 cur (RowL.drew HROW.out) (by rw [HCL.out]; omega) x y HGV.out hgg _ rfl
  go_wp2_with fail
  clear hov
  refine wp_region_noPanic ?_
  refine wp_region_held_drew (S := (fun _ => True)) (by kernel_rfl) (by exact trivial) (fun hHeld => ?_)
  refine take_at (i := 0) 121 (v := ?_) rfl rfl (by kernel_rfl) (by kernel_rfl) (by kernel_rfl) (fun _ _ _ h => h) (by rfl) ?_ hHeld ?_
  rotate_left
  · (intro w hSw; (try dsimp only at hSw); go_simp; try with_reducible rfl)
  simp only [Act.put, List.setIfInBounds_toArray, List.set_cons_zero, List.set_cons_succ]
  refine take_at (i := 1) 122 (v := ?_) rfl rfl (by kernel_rfl) (by kernel_rfl) (by kernel_rfl) (fun _ _ _ h => h) (by rfl) ?_ hHeld ?_
  rotate_left
  · (intro w hSw; (try dsimp only at hSw); go_simp; try with_reducible rfl)
  simp only [Act.put, List.setIfInBounds_toArray, List.set_cons_zero, List.set_cons_succ]
  refine take_at (i := 2) 123 (v := ?_) rfl rfl (by kernel_rfl) (by kernel_rfl) (by kernel_rfl) (fun _ _ _ h => h) (by rfl) ?_ hHeld ?_
  rotate_left
  · (intro w hSw; (try dsimp only at hSw); go_simp; try with_reducible rfl)
  simp only [Act.put, List.setIfInBounds_toArray, List.set_cons_zero, List.set_cons_succ]
  refine take_at (i := 3) 124 (v := ?_) rfl rfl (by kernel_rfl) (by kernel_rfl) (by kernel_rfl) (fun _ _ _ h => h) (by rfl) ?_ hHeld ?_
  rotate_left
  · (intro w hSw; (try dsimp only at hSw); go_simp; try with_reducible rfl)
  simp only [Act.put, List.setIfInBounds_toArray, List.set_cons_zero, List.set_cons_succ]
  refine take_at (i := 4) 125 (v := ?_) rfl rfl (by kernel_rfl) (by kernel_rfl) (by kernel_rfl) (fun _ _ _ h => h) (by rfl) ?_ hHeld ?_
  rotate_left
  · (intro w hSw; (try dsimp only at hSw); go_simp; try with_reducible rfl)
  simp only [Act.put, List.setIfInBounds_toArray, List.set_cons_zero, List.set_cons_succ]
  refine take_at (i := 5) 126 (v := ?_) rfl rfl (by kernel_rfl) (by kernel_rfl) (by kernel_rfl) (fun _ _ _ h => h) (by rfl) ?_ hHeld ?_
  rotate_left
  · (intro w hSw; (try dsimp only at hSw); go_simp; try with_reducible rfl)
  simp only [Act.put, List.setIfInBounds_toArray, List.set_cons_zero, List.set_cons_succ]
  refine take_at (i := 6) 127 (v := ?_) rfl rfl (by kernel_rfl) (by kernel_rfl) (by kernel_rfl) (fun _ _ _ h => h) (by rfl) ?_ hHeld ?_
  rotate_left
  · (intro w hSw; (try dsimp only at hSw); go_simp; try with_reducible rfl)
  simp only [Act.put, List.setIfInBounds_toArray, List.set_cons_zero, List.set_cons_succ]
  refine take_at (i := 7) 128 (v := ?_) rfl rfl (by kernel_rfl) (by kernel_rfl) (by kernel_rfl) (fun _ _ _ h => h) (by rfl) ?_ hHeld ?_
  rotate_left
  · (intro w hSw; (try dsimp only at hSw); go_simp; try with_reducible rfl)
  simp only [Act.put, List.setIfInBounds_toArray, List.set_cons_zero, List.set_cons_succ]
  refine take_at (i := 8) 129 (v := ?_) rfl rfl (by kernel_rfl) (by kernel_rfl) (by kernel_rfl) (fun _ _ _ h => h) (by rfl) ?_ hHeld ?_
  rotate_left
  · (intro w hSw; (try dsimp only at hSw); go_simp; try with_reducible rfl)
  simp only [Act.put, List.setIfInBounds_toArray, List.set_cons_zero, List.set_cons_succ]
  refine run_at (i := 9) rfl (by kernel_rfl) (by rfl) (fun K hK => ?_)
  simp only [List.getElem_toArray, List.getElem_cons_zero, List.getElem_cons_succ]
  (refine wpo_copy _ _ rfl g i2 _ _ _ _ _ rfl rfl cur (RowL.drew (RowL.drew HROW.out)) (vs.drop j) (by rw [List.length_drop, HVL.out]; have := HM.out; have := HI2.out; have := HJ.out; have := HK.out; simp only [Nat.min_def]; split <;> omega) (fun t u ht => RowL.src (RowL.drew (RowL.drew HROW.out)) j (n - j) t u (by rw [← HTK.out, List.drop_take] at ht; exact ht)) (by rw [List.length_drop, HVL.out, HCL.out]; have := HI2.out; have := HJ.out; have := HK.out; omega) (fun u hx => HU.out u (List.mem_of_mem_drop hx)) ?_; intro w2 hr2 hg2; have HR2 : Hid _ := hr2; have HG2 : Hid _ := hg2; clear hr2 hg2)
  refine hK.out _ _ (by exact trivial) ?_
  clear hK K
  intro hHeld2
  clear hHeld
  have hHeld := hHeld2
  clear hHeld2
  try simp only [Act.put, List.setIfInBounds_toArray, List.set_cons_zero, List.set_cons_succ]
  refine wpAnyH_done (by kernel_rfl) ?_ _
  refine NoPanic.normal ?_
  have hlen : (splice cur i2 (vs.drop j)).length = cap := by rw [splice_len (by rw [List.length_drop, HVL.out, HCL.out]; have := HI2.out; have := HJ.out; have := HK.out; omega), HCL.out]
  have HLEN : Hid _ := hlen
  have HG22 : Hid (w2.heap[gv]? = some (.cells #[x, y] tPg (0, 0))) := (HG2.out.block gv (Array.getElem?_eq_some_iff.1 HGV.out).1 (fun e => hgg (Option.some.inj e).symm)).trans HGV.out
  clear hlen
  obtain ⟨w3, hcp, hr3, hg3⟩ := copy_run (off := i) (dLen := k - i) (sLen := 2) (sCap := 2) (ad := ⟨gv, 0, none⟩) HR2.out [x, y] (by have := HI2.out; have := HK.out; have := HJ.out; simp only [Nat.min_def, List.length_cons, List.length_nil]; split <;> omega) (news2 HG22.out) (by rw [HLEN.out]; have := HJ.out; have := HK.out; simp; omega) HONE.out
  have HR3 : Hid _ := hr3
  have HG3 : Hid _ := hg3
  clear hr3 hg3
  go_wp2
  go_ret
  refine ⟨rfl, row_shut HR3.out ?_ ?_ (by omega) HCM.out (Nat.zero_le _), grow_trans grow_drew (grow_trans grow_drew (grow_trans HG2.out HG3.out))⟩
  · rw [splice_len (by rw [HLEN.out]; have := HJ.out; have := HK.out; simp; omega), HLEN.out]
  · have e1 : splice (splice cur i2 (vs.drop j)) i [x, y] = cur.take i ++ ([x, y] ++ (vs.drop j ++ cur.drop (i2 + (vs.drop j).length))) := by
      unfold splice
      have h2 := HI2.out
      have h3 := HCL.out
      rw [List.take_append_of_le_length (by rw [List.length_take]; omega), List.take_take, Nat.min_eq_left (by omega)]
      congr 2
      rw [List.drop_append_of_le_length (by rw [List.length_take]; simp; omega), List.drop_eq_nil_of_le (by rw [List.length_take]; simp; omega), List.nil_append]
    rw [e1, ← List.append_assoc, ← List.append_assoc, List.take_append_of_le_length (by rw [List.length_append, List.length_append, List.length_take, List.length_drop, HVL.out, HCL.out]; have := HJ.out; have := HK.out; simp; omega), List.take_of_length_le (by rw [List.length_append, List.length_append, List.length_take, List.length_drop, HVL.out, HCL.out]; have := HJ.out; have := HK.out; simp; omega), take_of_take HTK.out (by omega)]
    rfl
end
end Go.Proofs.Ytibolgpaolnheaa
namespace Go.Proofs.Ytibolgpaolnheaa
set_option linter.unusedVariables false
set_option linter.unusedSimpArgs false
open Go.RowKit
section
set_option maxRecDepth 20000
set_option maxHeartbeats 3200000
variable {w : World} {g n cap : Nat} {vs : List Value}
/-- append of places yet to be filled, where there is no room -/
theorem zeros_run {cur : List Value} (hrow : RowL w g cur) (hcl : cur.length = cap) (i q L : Nat) (hic : i ≤ cap) (hq : 0 < q) (hL : i + q = L) (hgt : cap < L) (hl : L ≤ 4398046511106) :
    ∃ w' g' c' cur', (∀ ty, (Builtin.append_ #[tPsl, 3] ty #[.slice (some ⟨g, 0, none⟩) i cap, .int .i64 (q : Int)]).run Try.prog w = .ok (.slice (some ⟨g', 0, none⟩) L c') w') ∧ RowL w' g' cur' ∧ cur'.length = c' ∧ cur'.take i = cur.take i ∧ L ≤ c' ∧ c' ≤ maxLen ∧ g' = w.heap.size ∧ w.grownBy w' none := by
  subst hL
  obtain ⟨i0, hi, hz0, hz1, hz2⟩ := info_parts info_pg
  have hf := run_firstCells_some (P := Try.prog) w.drew i0.size i ⟨g, 0, none⟩ i cap (cur.take i) (by rw [hz1, Nat.mul_one, List.length_take]; omega) (fun j u hu => by
    rw [Go.WideShapes.add_plain, Nat.zero_add, RowL.cell (RowL.drew hrow)]
    rw [List.getElem?_take] at hu
    split at hu
    · exact hu
    · cases hu)
  have hm : i + q ≤ maxLen := by simp only [maxLen]; omega
  have hge := grownCap_ge w (i + q) cap tPg
  refine ⟨_, w.heap.size, grownCap w (i + q) cap tPg, cur.take i ++ List.replicate q (.slice none 0 0) ++ List.replicate (grownCap w (i + q) cap tPg - (i + q)) (.slice none 0 0), fun ty => Go.Lib.run_append_grow_zeros (P := Try.prog) w tPsl 3 ty tPg i0 (.slice none 0 0) .i64 .i64 Try.underlying71 Try.underlying3 hi hz0 (some ⟨g, 0, none⟩) i cap (cur.take i) hf q hq (by omega) (by omega) (by omega) (by rw [hz2]; omega) (growslice_fits (by omega) (by rw [hz2]; omega)), ?_, ?_, ?_, hge, grownCap_le_maxLen w (i + q) cap tPg hm, rfl, ?_⟩
  · have ez : ∀ m, Builtin.zeroCells (Value.slice none 0 0).cells m = (List.replicate m (Value.slice none 0 0)).toArray := fun m => by
      apply Array.toList_inj.1
      rw [show (Value.slice none 0 0).cells = #[Value.slice none 0 0] from rfl]
      simp [Builtin.zeroCells]
      apply List.ext_getElem
      · simp
      · intro a b c
        simp [Nat.mod_one]
    refine (heap_alloc_new w.drew _).trans ?_
    rw [ez, ez]
    simp
  · simp only [List.length_append, List.length_take, List.length_replicate]
    omega
  · rw [List.append_assoc, List.take_append_of_le_length (by rw [List.length_take]; omega), List.take_take, Nat.min_self]
  · exact ⟨rfl, rfl, rfl, by simp, fun k hk _ => Below.heap_alloc w.drew _ k hk⟩
end
end Go.Proofs.Ytibolgpaolnheaa
