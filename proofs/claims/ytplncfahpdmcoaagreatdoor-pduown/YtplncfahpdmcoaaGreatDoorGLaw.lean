import Derived.Test.YtplncfahpdmcoaaGreatDoorUG
import Derived.Lib.SlBuf
import Derived.Test.YtplncfahpdmcoaaGreatDoorUG3
namespace Go.Proofs.YtplncfahpdmcoaaGreatDoor
set_option linter.unusedVariables false
set_option linter.unusedSimpArgs false
open Go.RowKit
abbrev mkR : Rg := (-99, 99)
def m3 : List Rg := [mkR, mkR, mkR]
/-- the row behind a copy, room for three in which k marks stand -/
def rmR (xs : List Rg) (k : Nat) : List Rg := xs ++ (List.replicate k mkR ++ List.replicate (3 - k) (0, 0))
theorem rmR_len (xs : List Rg) (k : Nat) (h : k ≤ 3) : (rmR xs k).length = xs.length + 3 := by simp [rmR]; omega
theorem rmR_set (xs : List Rg) (k : Nat) (h : k < 3) : (rmR xs k).set (xs.length + k) mkR = rmR xs (k + 1) := by
  unfold rmR
  rw [List.set_append_right _ _ (by omega), Nat.add_sub_cancel_left]
  congr 1
  match k, h with
  | 0, _ => rfl
  | 1, _ => rfl
  | 2, _ => rfl
theorem rmR_all (xs : List Rg) : rmR xs 3 = xs ++ m3 := rfl
theorem flatR_rep (n : Nat) : (madeCells (Value.cells (.agg #[.int .i64 0, .int .i64 0])) (n * 2)).toList = flatR (List.replicate n (0, 0)) := by
  apply List.ext_getElem?
  intro j
  by_cases hj : j < n * 2
  · obtain ⟨h1, h2⟩ := flatR_get (List.replicate n ((0, 0) : Rg)) (j / 2) (by simp; omega)
    have hm : (madeCells (Value.cells (.agg #[.int .i64 0, .int .i64 0])) (n * 2)).toList[j]? = some (.int .i64 0) := by
      rw [Array.getElem?_toList]
      rcases Nat.mod_two_eq_zero_or_one j with h | h
      · simp [madeCells, Value.cells, hj, h]
      · simp [madeCells, Value.cells, hj, h]
    rw [hm]
    rcases Nat.mod_two_eq_zero_or_one j with h | h
    · rw [show j / 2 * 2 = j from by omega] at h1
      rw [h1]
      simp
    · rw [show j / 2 * 2 + 1 = j from by omega] at h2
      rw [h2]
      simp
  · rw [List.getElem?_eq_none (by simp [madeCells]; omega), List.getElem?_eq_none (by rw [flatR_len]; simp; omega)]
theorem flatR_set2 : ∀ (xs : List Rg) (j : Nat) (_ : j < xs.length) (y : Rg), ((flatR xs).set (j * 2) (.int .i64 y.1)).set (j * 2 + 1) (.int .i64 y.2) = flatR (xs.set j y)
  | [], j, h, _ => by cases h
  | x :: xs, 0, _, y => by simp [flatR]
  | x :: xs, j + 1, h, y => by
    have h1 := flatR_set2 xs j (by simpa using h) y
    have e : ∀ y ys, flatR (y :: ys) = .int .i64 y.1 :: .int .i64 y.2 :: flatR ys := fun y ys => by simp [flatR]
    rw [e, show (j + 1) * 2 = j * 2 + 1 + 1 from by omega]
    simp only [List.set_cons_succ]
    rw [h1, e]
theorem ownR_set2 {w : World} {B g cap n : Nat} {ys : List Rg} (hn : n = ys.length) (h : OwnR w B (.slice (some ⟨g, 0, none⟩) n cap) ys) (j : Nat) (hj : j < n) (y : Rg) :
    OwnR (w.setCells g (j * 2) (rv y)) B (.slice (some ⟨g, 0, none⟩) n cap) (ys.set j y) ∧ w.grownBy (w.setCells g (j * 2) (rv y)) (some g) := by
  unfold OwnR at h
  rw [← hn] at h
  have h1 := World.ownsRow.stored h (j * 2) (.int .i64 y.1)
  have h2 := World.ownsRow.stored h1.1 (j * 2 + 1) (.int .i64 y.2)
  refine ⟨?_, h1.2.trans' h2.2⟩
  unfold OwnR
  rw [List.length_set, ← hn, ← flatR_set2 ys j (by omega) y]
  exact h2.1
theorem ownR_there {w : World} {B g cap n : Nat} {ys : List Rg} (hn : n = ys.length) (h : OwnR w B (.slice (some ⟨g, 0, none⟩) n cap) ys) (j : Nat) (hj : j < n) : w.there g (j * 2) 2 := fun i hi => by
  refine ⟨?_, ownR_cold h _⟩
  unfold OwnR at h
  rw [← hn] at h
  rw [World.ownsRow.cellAt h _ (by omega), List.getElem?_eq_getElem (by rw [flatR_len]; omega)]
  rfl
theorem run_copyR (w : World) (ty : TypeId) (g dLen dCap n : Nat) (a : Addr) (sLen sCap : Nat) (cur : Array Value) (t : TypeId) (cs : List Value) (hg : w.heap[g]? = some (.cells cur t (0, 0))) (hn : n = Nat.min sLen dLen) (hc : cs.length = n * 2)
    (hsrc : ∀ j v, cs[j]? = some v → w.cell? (a.add j) = some v) (hfit : cs.length ≤ cur.size) (h1 : ∀ v ∈ cs, v.oneCell' = true) :
    (Builtin.copy_ #[24, 24] ty #[.slice (some ⟨g, 0, none⟩) dLen dCap, .slice (some a) sLen sCap]).run Tryz.prog w = .ok (goInt n) (w.setRow g (cs ++ cur.toList.drop cs.length).toArray) := by
  obtain ⟨i0, hi, hz0, hz1, hz2⟩ := info_parts infoR
  have hl := run_loadCells_list (P := Tryz.prog) w a cs hsrc
  have hst := run_storeCells_at Tryz.prog g 0 t cs 0 cur w hg (by simpa using hfit) h1
  rw [hc] at hl
  simp [Builtin.copy_, run_underlying Tryz.underlying24, Builtin.lenOf, Builtin.firstCells, sizeOf, typeInfo, hi, hz1, ← hn, hl]
  simp at hst
  simp [hst]
theorem run_copyR_none (w : World) (ty : TypeId) (d a : Option Addr) (dLen dCap sLen sCap : Nat) (hn : Nat.min sLen dLen = 0) :
    (Builtin.copy_ #[24, 24] ty #[.slice d dLen dCap, .slice a sLen sCap]).run Tryz.prog w = .ok (goInt 0) w := by
  obtain ⟨i0, hi, hz0, hz1, hz2⟩ := info_parts infoR
  have hl : ∀ (x : Addr), (loadCells x 0).run Tryz.prog w = .ok #[] w := fun x => by simpa using run_loadCells_list (P := Tryz.prog) w x [] (by simp)
  cases d <;> cases a <;> simp [Builtin.copy_, run_underlying Tryz.underlying24, Builtin.lenOf, Builtin.firstCells, sizeOf, typeInfo, hi, hz1, hn, storeCells, hl]
theorem ownR_row {w : World} {B g n : Nat} {ys : List Rg} (hB : B ≤ g) (hn : n = ys.length) (hm : n ≤ maxLen) (h : w.heap[g]? = some (.cells (flatR ys).toArray 43 (0, 0))) : OwnR w B (.slice (some ⟨g, 0, none⟩) n n) ys := by
  subst hn
  exact ⟨flatR_len ys, .inr ⟨g, _, _, rfl, hB, h, Nat.le_refl _, hm, by simp [flatR_len], by rw [← flatR_len]; simp⟩⟩
end Go.Proofs.YtplncfahpdmcoaaGreatDoor
namespace Go.Proofs.YtplncfahpdmcoaaGreatDoor
set_option linter.unusedVariables false
set_option linter.unusedSimpArgs false
open Go.RowKit
theorem m3_get : ∀ (q : Nat) (h : q < m3.length), m3[q] = mkR
  | 0, _ => rfl
  | 1, _ => rfl
  | 2, _ => rfl
  | q + 3, h => absurd h (by simp [m3])
section
set_option maxRecDepth 20000
set_option maxHeartbeats 1600000
theorem ranges_t (ao : Option Addr) (n cap : Nat) (xs : List Rg) (w : World) (hn : n = xs.length) (hx : RdR w ao xs) (hl : n ≤ 8796093022200) :
    Calls Tryz.prog 22 #[.slice ao n cap] w fun e w' => ∃ g, e = .returned (.slice (some ⟨g, 0, none⟩) n (n + 3)) ∧ w.heap.size ≤ g ∧ RdR w' (some ⟨g, 0, none⟩) (xs ++ m3) ∧ Below w.heap.size w w' := by
  obtain ⟨i0, hi, hz0, hz1, hz2⟩ := info_parts infoR
  have hmk := run_make (P := Tryz.prog) w 24 43 i0 _ Tryz.underlying24 hi hz0 .i64 .i64 ((n + 3 : Nat) : Int) ((n + 3 : Nat) : Int) (by omega) (Int.le_refl _) (by rw [hz2]; omega) (by omega)
  rw [hz1, Int.toNat_natCast] at hmk
  obtain ⟨Z, hZ⟩ : ∃ Z : List Value, Z.toArray = madeCells (Value.cells (.agg #[.int .i64 0, .int .i64 0])) ((n + 3) * 2) := ⟨_, Array.toArray_toList⟩
  have hZ2 : Hid (Z = flatR (List.replicate (n + 3) (0, 0))) := by
    unfold Hid
    rw [← flatR_rep, ← hZ]
  rw [← hZ] at hmk
  obtain ⟨M, hM⟩ : ∃ M : Nat, M = n + 3 := ⟨_, rfl⟩
  rw [← hM] at hmk
  have HM : Hid (M = n + 3) := hM
  have hMw : IntKind.i64.wrap ((n : Int) + 3) = (M : Int) := by rw [IntKind.wrap_i64]; omega
  have hML : n ≤ M := by omega
  have hMb : M ≤ 8796093022208 := by omega
  have HCP : Hid (∀ ty, ∃ (v' : Value) (w2 : World), (Builtin.copy_ #[24, 24] ty #[.slice (some ⟨w.heap.size, 0, none⟩) M M, .slice ao n cap]).run Tryz.prog (w.alloc (.cells Z.toArray 43)) = .ok v' w2 ∧ w2.heap[w.heap.size]? = some (.cells (flatR (rmR xs 0)).toArray 43 (0, 0)) ∧ Below w.heap.size w w2) := fun ty => by
    by_cases h0 : n = 0
    · have hx0 : xs = [] := List.eq_nil_of_length_eq_zero (by omega)
      refine ⟨_, _, run_copyR_none _ ty _ _ M M n cap (by rw [h0]; simp), ?_, al (Below.refl _ _) _⟩
      rw [heap_alloc_new]
      rw [hZ2.out, hx0, h0]
      rfl
    · obtain ⟨b, o, hao, -⟩ := hx 0 (by omega)
      subst hao
      refine ⟨_, _, run_copyR _ ty w.heap.size M M n ⟨b, o, none⟩ n cap Z.toArray 43 (flatR xs) (heap_alloc_new w _) (Nat.min_eq_left hML).symm (by rw [flatR_len, hn]) ?_ ?_ (flatR_one' xs), ?_, below_setRow (al (Below.refl _ _) _) (Nat.le_refl _) _⟩
      · intro j u hj
        have hlt : j < xs.length * 2 := by
          have := (List.getElem?_eq_some_iff.1 hj).1
          rw [flatR_len] at this
          exact this
        have hxa := hx.below (al (Below.refl _ _) (.cells Z.toArray 43))
        obtain ⟨b', o', h1, h2, h3⟩ := hxa (j / 2) (by omega)
        cases h1
        obtain ⟨f1, f2⟩ := flatR_get xs (j / 2) (by omega)
        rw [Go.WideShapes.add_plain]
        by_cases e : j % 2 = 0
        · have ej : j = j / 2 * 2 := by omega
          rw [ej] at hj ⊢
          rw [f1] at hj
          rw [h2]
          exact hj
        · have ej : j = j / 2 * 2 + 1 := by omega
          rw [ej] at hj ⊢
          rw [f2] at hj
          rw [← Nat.add_assoc, h3]
          exact hj
      · rw [hZ2.out]
        simp [flatR_len]
        omega
      · rw [setRow_heap _ _ _ _ _ _ (heap_alloc_new w _), hZ2.out]
        congr 2
        have e1 : flatR (List.replicate (n + 3) ((0, 0) : Rg)) = flatR (List.replicate n (0, 0)) ++ flatR (List.replicate 3 (0, 0)) := by rw [← flatR_app, List.replicate_append_replicate]
        have e2 : (flatR xs).length = (flatR (List.replicate n ((0, 0) : Rg))).length := by rw [flatR_len, flatR_len, List.length_replicate, hn]
        simp only [List.toList_toArray]
        rw [e1, e2, List.drop_left]
        unfold rmR
        rw [flatR_app]
        rfl
  have HN : Hid (n = xs.length) := hn
  clear hM hZ hZ2 hn
  go_enter Tryz.func22, Tryz.ntmps22
  obtain ⟨v2, w2, hcp, hg2, hb2⟩ := HCP.out 3
  have HCQ : Hid (∀ ty, (Builtin.copy_ #[24, 24] ty #[.slice (some ⟨w.heap.size, 0, none⟩) M M, .slice ao n cap]).run Tryz.prog (w.alloc (.cells Z.toArray 43)) = .ok v2 w2) := fun _ => hcp
  clear hcp
  go_wp2_with (refine Go.Lib.wpList_copy_run _ rfl _ _ 24 24 rfl _ _ rfl rfl (HCQ.out _) ?_)
  have hown : OwnR w2 w.heap.size (.slice (some ⟨w.heap.size, 0, none⟩) M M) (rmR xs 0) := ownR_row (Nat.le_refl _) (by rw [rmR_len _ _ (by omega), ← HN.out]; exact HM.out) (by simp only [maxLen]; omega) hg2
  go_loopw [4] (fun i wr => ∃ k : Nat, k ≤ 3 ∧ i = .int .i64 (n + k : Nat) ∧ OwnR wr w.heap.size (.slice (some ⟨w.heap.size, 0, none⟩) M M) (rmR xs k) ∧ Below w.heap.size w wr) (fun i _ => n + 3 - (intOf i).toNat)
  case atStart => exact ⟨0, by omega, rfl, hown, hb2⟩
  case round =>
    obtain ⟨k, hk, rfl, hok, hbk⟩ := hrel
    clear hown hg2 hb2 HCQ HCP
    have HO : Hid (OwnR wr w.heap.size (.slice (some ⟨w.heap.size, 0, none⟩) M M) (rmR xs k)) := hok
    have HB : Hid (Below w.heap.size w wr) := hbk
    by_cases hlt : k < 3
    · have HMm : Hid (M = (rmR xs k).length) := by unfold Hid; rw [rmR_len _ _ hk, ← HN.out]; exact HM.out
      have hlt2 : n + k < M := by have := HM.out; omega
      have hlt3 : ((n + k : Nat) : Int) < (M : Int) := by omega
      have hkw : IntKind.i64.wrap (((n + k : Nat) : Int) + 1) = ((n + (k + 1) : Nat) : Int) := by rw [IntKind.wrap_i64]; omega
      have hk0 : (0 : Int) ≤ ((n + k : Nat) : Int) := by omega
      obtain ⟨J, hJ⟩ : ∃ J : Nat, J = n + k := ⟨_, rfl⟩
      have HJ : Hid (J = n + k) := hJ
      rw [← hJ] at hlt3 hkw hk0 hlt2 ⊢
      have H1C : Hid ((#[.int .i64 (-99), .int .i64 99] : Array Value).all (·.oneCell') = true) := by unfold Hid; simp [Value.oneCell']
      clear hok hbk hJ
      go_wp2_with (first
        | (go_at_call 44; refine (mark_t _).mono ?_; rintro e w5 ⟨rfl, hb5⟩; have HO5 : Hid (OwnR w5 w.heap.size (.slice (some ⟨w.heap.size, 0, none⟩) M M) (rmR xs k)) := OwnR.below HO.out hb5; have HB5 : Hid (Below w.heap.size w w5) := below_next HB.out hb5)
        | (refine wpList_store_mid rfl 43 _ _ rfl w.heap.size (J * 2) #[.int .i64 (-99), .int .i64 99] rfl rfl (ownR_there HMm.out HO5.out J hlt2) (by kernel_rfl) H1C.out ?_))
      have HST : Hid _ := ownR_set2 HMm.out HO5.out J hlt2 mkR
      rw [HJ.out, HN.out, rmR_set _ _ hlt, ← HN.out, ← HJ.out] at HST
      go_roundw
      case rel => exact ⟨k + 1, by omega, by first | rfl | go_num, HST.out.1, HB5.out.grown HST.out.2 HB5.out.size (fun j hj => by cases hj; exact Nat.le_refl _)⟩
      case measure =>
        have := HJ.out
        simp [intOf]
        omega
    · obtain rfl : k = 3 := by omega
      have hMm := HM.out
      rw [← hMm]
      have HF : Hid (OwnR wr w.heap.size (.slice (some ⟨w.heap.size, 0, none⟩) M M) (xs ++ m3)) := HO.out
      have hc1 : (n : Int) ≤ (M : Int) := by omega
      have hc1a : ¬ M = n := by omega
      have hnl : ¬ (M : Int) < (M : Int) := by omega
      clear hMm hok hbk
      go_wp2
      go_ret
      refine ⟨w.heap.size, by rw [← HM.out]; rfl, Nat.le_refl _, ?_, HB.out⟩
      obtain ⟨a, c, hv, -, -, -, hrd, -⟩ := OwnR.val HF.out
      simp only [Value.slice.injEq] at hv
      rw [hv.1]
      exact hrd
theorem rest_t (g : Nat) (ao : Option Addr) (n C cap : Nat) (xs : List Rg) (w : World) (hn : n = xs.length) (hC : C = n + 3) (hr : RdR w (some ⟨g, 0, none⟩) (xs ++ m3)) (hx : RdR w ao xs) (hl : n ≤ 8796093022200) :
    Calls Tryz.prog 40 #[.slice (some ⟨g, 0, none⟩) n C, .slice ao n cap] w fun e w' => e = .returned (.bool true) ∧ Below w.heap.size w w' := by
  have hCw : IntKind.i64.wrap ((n : Int) + 3) = (C : Int) := by rw [IntKind.wrap_i64]; omega
  have hC0 : (0 : Int) ≤ (C : Int) := by omega
  have hC1 : C ≤ 8796093022208 := by omega
  have HN : Hid (n = xs.length) := hn
  have HC : Hid (C = n + 3) := hC
  clear hn hC
  go_enter Tryz.func40, Tryz.ntmps40
  go_wp2
  go_loopw [6] (fun j wr => ∃ k : Nat, k ≤ C ∧ j = .int .i64 (k : Int) ∧ Below w.heap.size w wr) (fun j _ => C - (intOf j).toNat)
  case atStart => exact ⟨0, Nat.zero_le _, rfl, Below.refl _ _⟩
  case round =>
    obtain ⟨k, hk, rfl, hbw⟩ := hrel
    have hkw : IntKind.i64.wrap ((k : Int) + 1) = ((k + 1 : Nat) : Int) := by rw [IntKind.wrap_i64]; omega
    have HB : Hid (Below w.heap.size w wr) := hbw
    by_cases hlt : k < C
    · have hk1 : k < (xs ++ m3).length := by rw [List.length_append, ← HN.out]; have := HC.out; simp [m3]; omega
      have hlti : (k : Int) < (C : Int) := by omega
      have hk0 : (0 : Int) ≤ (k : Int) := by omega
      have hr1 : ∀ u, Below w.heap.size w u → u.rangeAt g (k * 2) (rv (xs ++ m3)[k]) := fun u hu => by have h9 := (hr.below hu).range k hk1; rw [Nat.zero_add] at h9; exact h9
      obtain ⟨x, hx9⟩ : ∃ x : Rg, x = (xs ++ m3)[k] := ⟨_, rfl⟩
      rw [← hx9] at hr1
      by_cases hkn : k < n
      · have hk2 : k < xs.length := by rw [← HN.out]; exact hkn
        have hxx : x = xs[k] := by rw [hx9, List.getElem_append_left hk2]
        have hkni : (k : Int) < (n : Int) := by omega
        have hd : decide ((n : Int) ≤ (k : Int)) = false := by simp; omega
        have hdn : decide (n ≤ k) = false := by simp; omega
        have hr2 : ∀ b o u, ao = some ⟨b, o, none⟩ → Below w.heap.size w u → u.rangeAt b (o + k * 2) (rv xs[k]) := fun b o u e hu => by subst e; exact (hx.below hu).range k hk2
        obtain ⟨b2, o2, rfl, -, -⟩ := hx k hk2
        rw [← hxx] at hr2
        obtain ⟨a1, a2⟩ := x
        have hl1 : ∀ u, Below w.heap.size w u → (Instr.loadAt 43 (.pointer (some ⟨g, k * 2, none⟩))).run Tryz.prog u = .ok (.agg #[.int .i64 a1, .int .i64 a2]) u := fun u hu => load_rg u _ _ a1 a2 (hr1 u hu)
        have hl2 : ∀ u, Below w.heap.size w u → (Instr.loadAt 43 (.pointer (some ⟨b2, o2 + k * 2, none⟩))).run Tryz.prog u = .ok (.agg #[.int .i64 a1, .int .i64 a2]) u := fun u hu => load_rg u _ _ a1 a2 (hr2 b2 o2 u rfl hu)
        have hne : ∀ u, (binOp .neq 43 (.agg #[.int .i64 a1, .int .i64 a2]) (.agg #[.int .i64 a1, .int .i64 a2])).run Tryz.prog u = .ok (.bool false) u := fun u => by rw [neq_rg]; simp
        clear hx9 hxx hr1 hr2
        go_wp2_with fail
        refine wp_region_noPanic ?_
        refine wp_region_held_drew (S := (fun u => Below w.heap.size w u)) (by kernel_rfl) (by first | exact hbw.drew | assumption) (fun hHeld => ?_)
        refine take_at (i := 0) 18 (v := ?_) rfl rfl (by kernel_rfl) (by kernel_rfl) (by kernel_rfl) (fun _ _ _ h => h) (by rfl) ?_ hHeld ?_
        rotate_left
        · (intro w hSw; (try dsimp only at hSw); go_simp; try with_reducible rfl)
        simp only [Act.put, List.setIfInBounds_toArray, List.set_cons_zero, List.set_cons_succ]
        refine take_at (i := 1) 19 (v := ?_) rfl rfl (by kernel_rfl) (by kernel_rfl) (by kernel_rfl) (fun _ _ _ h => h) (by rfl) ?_ hHeld ?_
        rotate_left
        · (intro w hSw; (try dsimp only at hSw); go_simp; try with_reducible rfl)
        simp only [Act.put, List.setIfInBounds_toArray, List.set_cons_zero, List.set_cons_succ]
        refine take_at (i := 2) 20 (v := ?_) rfl rfl (by kernel_rfl) (by kernel_rfl) (by kernel_rfl) (fun _ _ _ h => h) (by rfl) ?_ hHeld ?_
        rotate_left
        · (intro w hSw; (try dsimp only at hSw); go_simp; try with_reducible rfl)
        simp only [Act.put, List.setIfInBounds_toArray, List.set_cons_zero, List.set_cons_succ]
        refine take_at (i := 3) 21 (v := ?_) rfl rfl (by kernel_rfl) (by kernel_rfl) (by kernel_rfl) (fun _ _ _ h => h) (by rfl) ?_ hHeld ?_
        rotate_left
        · (intro w hSw; (try dsimp only at hSw); go_simp; try with_reducible rfl)
        simp only [Act.put, List.setIfInBounds_toArray, List.set_cons_zero, List.set_cons_succ]
        refine take_at (i := 4) 22 (v := ?_) rfl rfl (by kernel_rfl) (by kernel_rfl) (by kernel_rfl) (fun _ _ _ h => h) (by rfl) ?_ hHeld ?_
        rotate_left
        · (intro w hSw; (try dsimp only at hSw); go_simp; try with_reducible rfl)
        simp only [Act.put, List.setIfInBounds_toArray, List.set_cons_zero, List.set_cons_succ]
        refine take_at (i := 5) 23 (v := ?_) rfl rfl (by kernel_rfl) (by kernel_rfl) (by kernel_rfl) (fun _ _ _ h => h) (by rfl) ?_ hHeld ?_
        rotate_left
        · (intro w hSw; (try dsimp only at hSw); go_simp; try with_reducible rfl)
        simp only [Act.put, List.setIfInBounds_toArray, List.set_cons_zero, List.set_cons_succ]
        refine take_at (i := 6) 24 (v := ?_) rfl rfl (by kernel_rfl) (by kernel_rfl) (by kernel_rfl) (fun _ _ _ h => h) (by rfl) ?_ hHeld ?_
        rotate_left
        · (intro w hSw; (try dsimp only at hSw); go_simp; try with_reducible rfl)
        simp only [Act.put, List.setIfInBounds_toArray, List.set_cons_zero, List.set_cons_succ]
        refine take_at (i := 7) 25 (v := ?_) rfl rfl (by kernel_rfl) (by kernel_rfl) (by kernel_rfl) (fun _ _ _ h => h) (by rfl) ?_ hHeld ?_
        rotate_left
        · (intro w hSw; (try dsimp only at hSw); go_simp; try with_reducible rfl)
        simp only [Act.put, List.setIfInBounds_toArray, List.set_cons_zero, List.set_cons_succ]
        refine take_at (i := 8) 26 (v := .agg #[.int .i64 a1, .int .i64 a2]) rfl rfl (by kernel_rfl) (by kernel_rfl) (by kernel_rfl) (fun _ _ _ h => h) (by rfl) ?_ hHeld ?_
        · (intro w hSw; refine exec_load (by rfl) ?_; exact hl1 w hSw)
        simp only [Act.put, List.setIfInBounds_toArray, List.set_cons_zero, List.set_cons_succ]
        refine take_at (i := 9) 27 (v := ?_) rfl rfl (by kernel_rfl) (by kernel_rfl) (by kernel_rfl) (fun _ _ _ h => h) (by rfl) ?_ hHeld ?_
        rotate_left
        · (intro w hSw; (try dsimp only at hSw); go_simp; try with_reducible rfl)
        simp only [Act.put, List.setIfInBounds_toArray, List.set_cons_zero, List.set_cons_succ]
        refine take_at (i := 10) 28 (v := ?_) rfl rfl (by kernel_rfl) (by kernel_rfl) (by kernel_rfl) (fun _ _ _ h => h) (by rfl) ?_ hHeld ?_
        rotate_left
        · (intro w hSw; (try dsimp only at hSw); go_simp; try with_reducible rfl)
        simp only [Act.put, List.setIfInBounds_toArray, List.set_cons_zero, List.set_cons_succ]
        refine take_at (i := 11) 29 (v := ?_) rfl rfl (by kernel_rfl) (by kernel_rfl) (by kernel_rfl) (fun _ _ _ h => h) (by rfl) ?_ hHeld ?_
        rotate_left
        · (intro w hSw; (try dsimp only at hSw); go_simp; try with_reducible rfl)
        simp only [Act.put, List.setIfInBounds_toArray, List.set_cons_zero, List.set_cons_succ]
        refine take_at (i := 12) 30 (v := .agg #[.int .i64 a1, .int .i64 a2]) rfl rfl (by kernel_rfl) (by kernel_rfl) (by kernel_rfl) (fun _ _ _ h => h) (by rfl) ?_ hHeld ?_
        · (intro w hSw; refine exec_load (by rfl) ?_; exact hl2 w hSw)
        simp only [Act.put, List.setIfInBounds_toArray, List.set_cons_zero, List.set_cons_succ]
        refine take_at (i := 13) 31 (v := ?_) rfl rfl (by kernel_rfl) (by kernel_rfl) (by kernel_rfl) (fun _ _ _ h => h) (by rfl) ?_ hHeld ?_
        rotate_left
        · (intro w hSw; (try dsimp only at hSw); go_simp; try with_reducible rfl)
        simp only [Act.put, List.setIfInBounds_toArray, List.set_cons_zero, List.set_cons_succ]
        refine take_at (i := 14) 32 (v := ?_) rfl rfl (by kernel_rfl) (by kernel_rfl) (by kernel_rfl) (fun _ _ _ h => h) (by rfl) ?_ hHeld ?_
        rotate_left
        · (intro w hSw; (try dsimp only at hSw); go_simp; try with_reducible rfl)
        simp only [Act.put, List.setIfInBounds_toArray, List.set_cons_zero, List.set_cons_succ]
        refine take_at (i := 15) 33 (v := ?_) rfl rfl (by kernel_rfl) (by kernel_rfl) (by kernel_rfl) (fun _ _ _ h => h) (by rfl) ?_ hHeld ?_
        rotate_left
        · (intro w hSw; (try dsimp only at hSw); go_simp; try with_reducible rfl)
        simp only [Act.put, List.setIfInBounds_toArray, List.set_cons_zero, List.set_cons_succ]
        refine take_at (i := 16) 34 (v := ?_) rfl rfl (by kernel_rfl) (by kernel_rfl) (by kernel_rfl) (fun _ _ _ h => h) (by rfl) ?_ hHeld ?_
        rotate_left
        · (intro w hSw; (try dsimp only at hSw); go_simp; try with_reducible rfl)
        simp only [Act.put, List.setIfInBounds_toArray, List.set_cons_zero, List.set_cons_succ]
        refine take_at (i := 17) 35 (v := ?_) rfl rfl (by kernel_rfl) (by kernel_rfl) (by kernel_rfl) (fun _ _ _ h => h) (by rfl) ?_ hHeld ?_
        rotate_left
        · (intro w hSw; (try dsimp only at hSw); go_simp; try with_reducible rfl)
        simp only [Act.put, List.setIfInBounds_toArray, List.set_cons_zero, List.set_cons_succ]
        refine take_at (i := 18) 36 (v := ?_) rfl rfl (by kernel_rfl) (by kernel_rfl) (by kernel_rfl) (fun _ _ _ h => h) (by rfl) ?_ hHeld ?_
        rotate_left
        · (intro w hSw; (try dsimp only at hSw); go_simp; try with_reducible rfl)
        simp only [Act.put, List.setIfInBounds_toArray, List.set_cons_zero, List.set_cons_succ]
        refine take_at (i := 19) 37 (v := ?_) rfl rfl (by kernel_rfl) (by kernel_rfl) (by kernel_rfl) (fun _ _ _ h => h) (by rfl) ?_ hHeld ?_
        rotate_left
        · (intro w hSw; (try dsimp only at hSw); go_simp; try with_reducible rfl)
        simp only [Act.put, List.setIfInBounds_toArray, List.set_cons_zero, List.set_cons_succ]
        refine take_at (i := 20) 38 (v := ?_) rfl rfl (by kernel_rfl) (by kernel_rfl) (by kernel_rfl) (fun _ _ _ h => h) (by rfl) ?_ hHeld ?_
        rotate_left
        · (intro w hSw; (try dsimp only at hSw); go_simp; try with_reducible rfl)
        simp only [Act.put, List.setIfInBounds_toArray, List.set_cons_zero, List.set_cons_succ]
        refine skip_at (i := 21) 39 rfl rfl (by kernel_rfl) (by kernel_rfl) (by kernel_rfl) (fun _ _ _ h => h) (by rfl) hHeld ?_
        simp only [Act.put, List.setIfInBounds_toArray, List.set_cons_zero, List.set_cons_succ]
        refine skip_at (i := 22) 40 rfl rfl (by kernel_rfl) (by kernel_rfl) (by kernel_rfl) (fun _ _ _ h => h) (by rfl) hHeld ?_
        simp only [Act.put, List.setIfInBounds_toArray, List.set_cons_zero, List.set_cons_succ]
        refine skip_at (i := 23) 41 rfl rfl (by kernel_rfl) (by kernel_rfl) (by kernel_rfl) (fun _ _ _ h => h) (by rfl) hHeld ?_
        simp only [Act.put, List.setIfInBounds_toArray, List.set_cons_zero, List.set_cons_succ]
        refine skip_at (i := 24) 42 rfl rfl (by kernel_rfl) (by kernel_rfl) (by kernel_rfl) (fun _ _ _ h => h) (by rfl) hHeld ?_
        simp only [Act.put, List.setIfInBounds_toArray, List.set_cons_zero, List.set_cons_succ]
        refine skip_at (i := 25) 43 rfl rfl (by kernel_rfl) (by kernel_rfl) (by kernel_rfl) (fun _ _ _ h => h) (by rfl) hHeld ?_
        simp only [Act.put, List.setIfInBounds_toArray, List.set_cons_zero, List.set_cons_succ]
        refine skip_at (i := 26) 44 rfl rfl (by kernel_rfl) (by kernel_rfl) (by kernel_rfl) (fun _ _ _ h => h) (by rfl) hHeld ?_
        simp only [Act.put, List.setIfInBounds_toArray, List.set_cons_zero, List.set_cons_succ]
        refine take_at (i := 27) 45 (v := ?_) rfl rfl (by kernel_rfl) (by kernel_rfl) (by kernel_rfl) (fun _ _ _ h => h) (by rfl) ?_ hHeld ?_
        rotate_left
        · (intro w hSw; (try dsimp only at hSw); go_simp; try with_reducible rfl)
        simp only [Act.put, List.setIfInBounds_toArray, List.set_cons_zero, List.set_cons_succ]
        refine take_at (i := 28) 46 (v := ?_) rfl rfl (by kernel_rfl) (by kernel_rfl) (by kernel_rfl) (fun _ _ _ h => h) (by rfl) ?_ hHeld ?_
        rotate_left
        · (intro w hSw; (try dsimp only at hSw); go_simp; try with_reducible rfl)
        simp only [Act.put, List.setIfInBounds_toArray, List.set_cons_zero, List.set_cons_succ]
        refine wpAnyH_done (by kernel_rfl) ?_ _
        refine NoPanic.normal ?_
        go_wp2
        go_roundw
        case rel => exact ⟨k + 1, by omega, by go_num, HB.out.drew⟩
        case measure => simp [intOf]; omega
      · have hxx : x = mkR := by
          rw [hx9, List.getElem_append_right (by rw [← HN.out]; omega)]
          exact m3_get _ _
        have hkni : ¬ (k : Int) < (n : Int) := by omega
        have hd : decide ((k : Int) < (n : Int)) = false := by simp; omega
        have hnk : (n : Int) ≤ (k : Int) := by omega
        subst hxx
        have hl1 : ∀ u, Below w.heap.size w u → (Instr.loadAt 43 (.pointer (some ⟨g, k * 2, none⟩))).run Tryz.prog u = .ok (.agg #[.int .i64 (-99), .int .i64 99]) u := fun u hu => load_rg u _ _ (-99) 99 (hr1 u hu)
        have hne : ∀ u, (binOp .neq 43 (.agg #[.int .i64 (-99), .int .i64 99]) (.agg #[.int .i64 (-99), .int .i64 99])).run Tryz.prog u = .ok (.bool false) u := fun u => by rw [neq_rg]; simp
        clear hx9 hr1
        go_wp2_with fail
        refine wp_region_noPanic ?_
        refine wp_region_held_drew (S := (fun u => Below w.heap.size w u)) (by kernel_rfl) (by first | exact hbw.drew | exact below_next (by assumption) hb5 | assumption) (fun hHeld => ?_)
        refine take_at (i := 0) 18 (v := ?_) rfl rfl (by kernel_rfl) (by kernel_rfl) (by kernel_rfl) (fun _ _ _ h => h) (by rfl) ?_ hHeld ?_
        rotate_left
        · (intro w hSw; (try dsimp only at hSw); go_simp; try with_reducible rfl)
        simp only [Act.put, List.setIfInBounds_toArray, List.set_cons_zero, List.set_cons_succ]
        refine take_at (i := 1) 19 (v := ?_) rfl rfl (by kernel_rfl) (by kernel_rfl) (by kernel_rfl) (fun _ _ _ h => h) (by rfl) ?_ hHeld ?_
        rotate_left
        · (intro w hSw; (try dsimp only at hSw); go_simp; try with_reducible rfl)
        simp only [Act.put, List.setIfInBounds_toArray, List.set_cons_zero, List.set_cons_succ]
        refine take_at (i := 2) 20 (v := ?_) rfl rfl (by kernel_rfl) (by kernel_rfl) (by kernel_rfl) (fun _ _ _ h => h) (by rfl) ?_ hHeld ?_
        rotate_left
        · (intro w hSw; (try dsimp only at hSw); go_simp; try with_reducible rfl)
        simp only [Act.put, List.setIfInBounds_toArray, List.set_cons_zero, List.set_cons_succ]
        refine take_at (i := 3) 21 (v := ?_) rfl rfl (by kernel_rfl) (by kernel_rfl) (by kernel_rfl) (fun _ _ _ h => h) (by rfl) ?_ hHeld ?_
        rotate_left
        · (intro w hSw; (try dsimp only at hSw); go_simp; try with_reducible rfl)
        simp only [Act.put, List.setIfInBounds_toArray, List.set_cons_zero, List.set_cons_succ]
        refine take_at (i := 4) 22 (v := ?_) rfl rfl (by kernel_rfl) (by kernel_rfl) (by kernel_rfl) (fun _ _ _ h => h) (by rfl) ?_ hHeld ?_
        rotate_left
        · (intro w hSw; (try dsimp only at hSw); go_simp; try with_reducible rfl)
        simp only [Act.put, List.setIfInBounds_toArray, List.set_cons_zero, List.set_cons_succ]
        refine skip_at (i := 5) 23 rfl rfl (by kernel_rfl) (by kernel_rfl) (by kernel_rfl) (fun _ _ _ h => h) (by rfl) hHeld ?_
        simp only [Act.put, List.setIfInBounds_toArray, List.set_cons_zero, List.set_cons_succ]
        refine skip_at (i := 6) 24 rfl rfl (by kernel_rfl) (by kernel_rfl) (by kernel_rfl) (fun _ _ _ h => h) (by rfl) hHeld ?_
        simp only [Act.put, List.setIfInBounds_toArray, List.set_cons_zero, List.set_cons_succ]
        refine skip_at (i := 7) 25 rfl rfl (by kernel_rfl) (by kernel_rfl) (by kernel_rfl) (fun _ _ _ h => h) (by rfl) hHeld ?_
        simp only [Act.put, List.setIfInBounds_toArray, List.set_cons_zero, List.set_cons_succ]
        refine skip_at (i := 8) 26 rfl rfl (by kernel_rfl) (by kernel_rfl) (by kernel_rfl) (fun _ _ _ h => h) (by rfl) hHeld ?_
        simp only [Act.put, List.setIfInBounds_toArray, List.set_cons_zero, List.set_cons_succ]
        refine skip_at (i := 9) 27 rfl rfl (by kernel_rfl) (by kernel_rfl) (by kernel_rfl) (fun _ _ _ h => h) (by rfl) hHeld ?_
        simp only [Act.put, List.setIfInBounds_toArray, List.set_cons_zero, List.set_cons_succ]
        refine skip_at (i := 10) 28 rfl rfl (by kernel_rfl) (by kernel_rfl) (by kernel_rfl) (fun _ _ _ h => h) (by rfl) hHeld ?_
        simp only [Act.put, List.setIfInBounds_toArray, List.set_cons_zero, List.set_cons_succ]
        refine skip_at (i := 11) 29 rfl rfl (by kernel_rfl) (by kernel_rfl) (by kernel_rfl) (fun _ _ _ h => h) (by rfl) hHeld ?_
        simp only [Act.put, List.setIfInBounds_toArray, List.set_cons_zero, List.set_cons_succ]
        refine skip_at (i := 12) 30 rfl rfl (by kernel_rfl) (by kernel_rfl) (by kernel_rfl) (fun _ _ _ h => h) (by rfl) hHeld ?_
        simp only [Act.put, List.setIfInBounds_toArray, List.set_cons_zero, List.set_cons_succ]
        refine skip_at (i := 13) 31 rfl rfl (by kernel_rfl) (by kernel_rfl) (by kernel_rfl) (fun _ _ _ h => h) (by rfl) hHeld ?_
        simp only [Act.put, List.setIfInBounds_toArray, List.set_cons_zero, List.set_cons_succ]
        refine take_at (i := 14) 32 (v := ?_) rfl rfl (by kernel_rfl) (by kernel_rfl) (by kernel_rfl) (fun _ _ _ h => h) (by rfl) ?_ hHeld ?_
        rotate_left
        · (intro w hSw; (try dsimp only at hSw); go_simp; try with_reducible rfl)
        simp only [Act.put, List.setIfInBounds_toArray, List.set_cons_zero, List.set_cons_succ]
        refine take_at (i := 15) 33 (v := ?_) rfl rfl (by kernel_rfl) (by kernel_rfl) (by kernel_rfl) (fun _ _ _ h => h) (by rfl) ?_ hHeld ?_
        rotate_left
        · (intro w hSw; (try dsimp only at hSw); go_simp; try with_reducible rfl)
        simp only [Act.put, List.setIfInBounds_toArray, List.set_cons_zero, List.set_cons_succ]
        refine take_at (i := 16) 34 (v := ?_) rfl rfl (by kernel_rfl) (by kernel_rfl) (by kernel_rfl) (fun _ _ _ h => h) (by rfl) ?_ hHeld ?_
        rotate_left
        · (intro w hSw; (try dsimp only at hSw); go_simp; try with_reducible rfl)
        simp only [Act.put, List.setIfInBounds_toArray, List.set_cons_zero, List.set_cons_succ]
        refine take_at (i := 17) 35 (v := ?_) rfl rfl (by kernel_rfl) (by kernel_rfl) (by kernel_rfl) (fun _ _ _ h => h) (by rfl) ?_ hHeld ?_
        rotate_left
        · (intro w hSw; (try dsimp only at hSw); go_simp; try with_reducible rfl)
        simp only [Act.put, List.setIfInBounds_toArray, List.set_cons_zero, List.set_cons_succ]
        refine take_at (i := 18) 36 (v := ?_) rfl rfl (by kernel_rfl) (by kernel_rfl) (by kernel_rfl) (fun _ _ _ h => h) (by rfl) ?_ hHeld ?_
        rotate_left
        · (intro w hSw; (try dsimp only at hSw); go_simp; try with_reducible rfl)
        simp only [Act.put, List.setIfInBounds_toArray, List.set_cons_zero, List.set_cons_succ]
        refine take_at (i := 19) 37 (v := ?_) rfl rfl (by kernel_rfl) (by kernel_rfl) (by kernel_rfl) (fun _ _ _ h => h) (by rfl) ?_ hHeld ?_
        rotate_left
        · (intro w hSw; (try dsimp only at hSw); go_simp; try with_reducible rfl)
        simp only [Act.put, List.setIfInBounds_toArray, List.set_cons_zero, List.set_cons_succ]
        refine take_at (i := 20) 38 (v := ?_) rfl rfl (by kernel_rfl) (by kernel_rfl) (by kernel_rfl) (fun _ _ _ h => h) (by rfl) ?_ hHeld ?_
        rotate_left
        · (intro w hSw; (try dsimp only at hSw); go_simp; try with_reducible rfl)
        simp only [Act.put, List.setIfInBounds_toArray, List.set_cons_zero, List.set_cons_succ]
        refine take_at (i := 21) 39 (v := ?_) rfl rfl (by kernel_rfl) (by kernel_rfl) (by kernel_rfl) (fun _ _ _ h => h) (by rfl) ?_ hHeld ?_
        rotate_left
        · (intro w hSw; (try dsimp only at hSw); go_simp; try with_reducible rfl)
        simp only [Act.put, List.setIfInBounds_toArray, List.set_cons_zero, List.set_cons_succ]
        refine take_at (i := 22) 40 (v := ?_) rfl rfl (by kernel_rfl) (by kernel_rfl) (by kernel_rfl) (fun _ _ _ h => h) (by rfl) ?_ hHeld ?_
        rotate_left
        · (intro w hSw; (try dsimp only at hSw); go_simp; try with_reducible rfl)
        simp only [Act.put, List.setIfInBounds_toArray, List.set_cons_zero, List.set_cons_succ]
        refine take_at (i := 23) 41 (v := ?_) rfl rfl (by kernel_rfl) (by kernel_rfl) (by kernel_rfl) (fun _ _ _ h => h) (by rfl) ?_ hHeld ?_
        rotate_left
        · (intro w hSw; (try dsimp only at hSw); go_simp; try with_reducible rfl)
        simp only [Act.put, List.setIfInBounds_toArray, List.set_cons_zero, List.set_cons_succ]
        refine take_at (i := 24) 42 (v := .agg #[.int .i64 (-99), .int .i64 99]) rfl rfl (by kernel_rfl) (by kernel_rfl) (by kernel_rfl) (fun _ _ _ h => h) (by rfl) ?_ hHeld ?_
        · (intro w hSw; refine exec_load (by rfl) ?_; exact hl1 w hSw)
        simp only [Act.put, List.setIfInBounds_toArray, List.set_cons_zero, List.set_cons_succ]
        refine run_at (i := 25) rfl (by kernel_rfl) (by rfl) (fun K hK => ?_)
        simp only [List.getElem_toArray, List.getElem_cons_zero, List.getElem_cons_succ]
        go_simp
        (go_at_call 44; refine (mark_t _).mono ?_; rintro e w5 ⟨rfl, hb5⟩)
        go_wp2_with fail
        refine hK.out _ _ (by first | exact hbw.drew | exact below_next (by assumption) hb5 | assumption) ?_
        clear hK K
        intro hHeld2
        clear hHeld
        have hHeld := hHeld2
        clear hHeld2
        try simp only [Act.put, List.setIfInBounds_toArray, List.set_cons_zero, List.set_cons_succ]
        refine take_at (i := 26) 44 (v := ?_) rfl rfl (by kernel_rfl) (by kernel_rfl) (by kernel_rfl) (fun _ _ _ h => h) (by rfl) ?_ hHeld ?_
        rotate_left
        · (intro w hSw; (try dsimp only at hSw); go_simp; try with_reducible rfl)
        simp only [Act.put, List.setIfInBounds_toArray, List.set_cons_zero, List.set_cons_succ]
        refine take_at (i := 27) 45 (v := ?_) rfl rfl (by kernel_rfl) (by kernel_rfl) (by kernel_rfl) (fun _ _ _ h => h) (by rfl) ?_ hHeld ?_
        rotate_left
        · (intro w hSw; (try dsimp only at hSw); go_simp; try with_reducible rfl)
        simp only [Act.put, List.setIfInBounds_toArray, List.set_cons_zero, List.set_cons_succ]
        refine take_at (i := 28) 46 (v := ?_) rfl rfl (by kernel_rfl) (by kernel_rfl) (by kernel_rfl) (fun _ _ _ h => h) (by rfl) ?_ hHeld ?_
        rotate_left
        · (intro w hSw; (try dsimp only at hSw); go_simp; try with_reducible rfl)
        simp only [Act.put, List.setIfInBounds_toArray, List.set_cons_zero, List.set_cons_succ]
        refine wpAnyH_done (by kernel_rfl) ?_ _
        refine NoPanic.normal ?_
        go_wp2
        go_roundw
        case rel => exact ⟨k + 1, by omega, by go_num, hHeld⟩
        case measure => simp [intOf]; omega
    · have hlti : ¬ (k : Int) < (C : Int) := by omega
      clear hbw
      go_wp2
      go_ret
      exact ⟨rfl, HB.out⟩
end
end Go.Proofs.YtplncfahpdmcoaaGreatDoor
