import Derived.Test.YtkdgjfjcpgiokaaGreatIxIl
namespace Go.Proofs.YtkdgjfjcpgiokaaGreat
set_option linter.unusedVariables false
set_option linter.unusedSimpArgs false
open Go.RowKit Go.Maps
section
set_option maxRecDepth 20000
set_option maxHeartbeats 800000
theorem rangesI_t (ao bo : Option Addr) (n m c1 c2 : Nat) (xs ys : List Rg) (w : World) (hn : n = xs.length) (hm : m = ys.length) (hx : RdR w ao xs) (hy : RdR w bo ys) (hl : n ≤ 8796093022208) (he : xs = ys) :
    Calls Tryz.prog 27 #[.slice ao n c1, .slice bo m c2] w fun e w' => e = .returned (.bool true) ∧ Below w.heap.size w w' := by
  subst he
  obtain rfl : n = m := by omega
  have HN : Hid _ := hn
  clear hn hm
  go_enter Tryz.func27, Tryz.ntmps27
  go_wp2
  go_loopw [5] (fun j wr => ∃ k : Nat, k ≤ n ∧ j = .int .i64 (k : Int) ∧ Below w.heap.size w wr) (fun j _ => n - (intOf j).toNat)
  case atStart => exact ⟨0, Nat.zero_le _, rfl, Below.refl _ _⟩
  case round =>
    obtain ⟨k, hk, rfl, hbw⟩ := hrel
    have hkw : IntKind.i64.wrap ((k : Int) + 1) = ((k + 1 : Nat) : Int) := by rw [IntKind.wrap_i64]; omega
    by_cases hlt : k < n
    · have hk1 : k < xs.length := by rw [← HN.out]; exact hlt
      have hlti : (k : Int) < (n : Int) := by omega
      have hk0 : (0 : Int) ≤ (k : Int) := by omega
      obtain ⟨b, o, rfl, -, -⟩ := hx k hk1
      obtain ⟨b2, o2, rfl, -, -⟩ := hy k hk1
      have hr1 : ∀ u, Below w.heap.size w u → u.rangeAt b (o + k * 2) (rv xs[k]) := fun u hu => (hx.below hu).range k hk1
      have hr2 : ∀ u, Below w.heap.size w u → u.rangeAt b2 (o2 + k * 2) (rv xs[k]) := fun u hu => (hy.below hu).range k hk1
      obtain ⟨x, hx9⟩ : ∃ x : Rg, x = xs[k] := ⟨_, rfl⟩
      rw [← hx9] at hr1 hr2
      obtain ⟨a1, a2⟩ := x
      have hl1 : ∀ u, Below w.heap.size w u → (Instr.loadAt 81 (.pointer (some ⟨b, o + k * 2, none⟩))).run Tryz.prog u = .ok (.agg #[.int .i64 a1, .int .i64 a2]) u := fun u hu => load_rgc u _ _ a1 a2 (hr1 u hu)
      have hl2 : ∀ u, Below w.heap.size w u → (Instr.loadAt 81 (.pointer (some ⟨b2, o2 + k * 2, none⟩))).run Tryz.prog u = .ok (.agg #[.int .i64 a1, .int .i64 a2]) u := fun u hu => load_rgc u _ _ a1 a2 (hr2 u hu)
      have hne : ∀ u, (binOp .neq 81 (.agg #[.int .i64 a1, .int .i64 a2]) (.agg #[.int .i64 a1, .int .i64 a2])).run Tryz.prog u = .ok (.bool false) u := fun u => by rw [neq_rgc]; simp
      have HBW : Hid _ := hbw
      clear hx9 hr1 hr2
      go_wp2_with fail
      refine wp_region_noPanic ?_
      refine wp_region_held_drew (S := (fun u => Below w.heap.size w u)) (by kernel_rfl) (by first | exact hbw.drew | assumption) (fun hHeld => ?_)
      refine take_at (i := 0) 17 (v := ?_) rfl rfl (by kernel_rfl) (by kernel_rfl) (by kernel_rfl) (fun _ _ _ h => h) (by rfl) ?_ hHeld ?_
      rotate_left
      · (intro w hSw; (try dsimp only at hSw); go_simp; try with_reducible rfl)
      simp only [Act.put, List.setIfInBounds_toArray, List.set_cons_zero, List.set_cons_succ]
      refine take_at (i := 1) 18 (v := ?_) rfl rfl (by kernel_rfl) (by kernel_rfl) (by kernel_rfl) (fun _ _ _ h => h) (by rfl) ?_ hHeld ?_
      rotate_left
      · (intro w hSw; (try dsimp only at hSw); go_simp; try with_reducible rfl)
      simp only [Act.put, List.setIfInBounds_toArray, List.set_cons_zero, List.set_cons_succ]
      refine take_at (i := 2) 19 (v := ?_) rfl rfl (by kernel_rfl) (by kernel_rfl) (by kernel_rfl) (fun _ _ _ h => h) (by rfl) ?_ hHeld ?_
      rotate_left
      · (intro w hSw; (try dsimp only at hSw); go_simp; try with_reducible rfl)
      simp only [Act.put, List.setIfInBounds_toArray, List.set_cons_zero, List.set_cons_succ]
      refine take_at (i := 3) 20 (v := .agg #[.int .i64 a1, .int .i64 a2]) rfl rfl (by kernel_rfl) (by kernel_rfl) (by kernel_rfl) (fun _ _ _ h => h) (by rfl) ?_ hHeld ?_
      · (intro w hSw; refine exec_load (by rfl) ?_; exact hl1 w hSw)
      simp only [Act.put, List.setIfInBounds_toArray, List.set_cons_zero, List.set_cons_succ]
      refine take_at (i := 4) 21 (v := ?_) rfl rfl (by kernel_rfl) (by kernel_rfl) (by kernel_rfl) (fun _ _ _ h => h) (by rfl) ?_ hHeld ?_
      rotate_left
      · (intro w hSw; (try dsimp only at hSw); go_simp; try with_reducible rfl)
      simp only [Act.put, List.setIfInBounds_toArray, List.set_cons_zero, List.set_cons_succ]
      refine take_at (i := 5) 22 (v := ?_) rfl rfl (by kernel_rfl) (by kernel_rfl) (by kernel_rfl) (fun _ _ _ h => h) (by rfl) ?_ hHeld ?_
      rotate_left
      · (intro w hSw; (try dsimp only at hSw); go_simp; try with_reducible rfl)
      simp only [Act.put, List.setIfInBounds_toArray, List.set_cons_zero, List.set_cons_succ]
      refine take_at (i := 6) 23 (v := ?_) rfl rfl (by kernel_rfl) (by kernel_rfl) (by kernel_rfl) (fun _ _ _ h => h) (by rfl) ?_ hHeld ?_
      rotate_left
      · (intro w hSw; (try dsimp only at hSw); go_simp; try with_reducible rfl)
      simp only [Act.put, List.setIfInBounds_toArray, List.set_cons_zero, List.set_cons_succ]
      refine take_at (i := 7) 24 (v := .agg #[.int .i64 a1, .int .i64 a2]) rfl rfl (by kernel_rfl) (by kernel_rfl) (by kernel_rfl) (fun _ _ _ h => h) (by rfl) ?_ hHeld ?_
      · (intro w hSw; refine exec_load (by rfl) ?_; exact hl2 w hSw)
      simp only [Act.put, List.setIfInBounds_toArray, List.set_cons_zero, List.set_cons_succ]
      refine take_at (i := 8) 25 (v := ?_) rfl rfl (by kernel_rfl) (by kernel_rfl) (by kernel_rfl) (fun _ _ _ h => h) (by rfl) ?_ hHeld ?_
      rotate_left
      · (intro w hSw; (try dsimp only at hSw); go_simp; try with_reducible rfl)
      simp only [Act.put, List.setIfInBounds_toArray, List.set_cons_zero, List.set_cons_succ]
      refine wpAnyH_done (by kernel_rfl) ?_ _
      refine NoPanic.normal ?_
      go_wp2
      go_roundw
      case rel => exact ⟨k + 1, by omega, by go_num, HBW.out.drew⟩
      case measure => simp [intOf]; omega
    · have hlti : ¬ (k : Int) < (n : Int) := by omega
      go_wp2
      go_ret
      exact ⟨rfl, hbw⟩

theorem bytesRow_get (s : ByteArray) (cap i : Nat) (h : i < s.size) : (bytesRow s cap)[i]? = some (.int .u8 (s.data.toList[i]'(by simpa using h)).toNat) := by
  unfold bytesRow
  have h' : i < s.data.size := h
  rw [Array.getElem?_append_left (by simpa using h'), Array.getElem?_map, Array.getElem?_eq_getElem h']
  simp
theorem convB (u : World) (xs : List UInt8) : ∃ cp u', (convert 9 24 (.string ⟨xs.toArray⟩)).run Tryz.prog u = .ok (.slice (some ⟨u.heap.size, 0, none⟩) xs.length cp) u' ∧ Rd u' (some ⟨u.heap.size, 0, none⟩) xs ∧ Below u.heap.size u u' := by
  have h1 := run_bytes_of_string (P := Tryz.prog) u 9 24 5 ⟨xs.toArray⟩ Tryz.underlying9 Tryz.underlying24 Tryz.underlying5
  refine ⟨_, _, h1, fun _ => ⟨_, _, rfl, fun i hi => ?_⟩, (Below.refl _ _).drew.alloc (Nat.le_refl _) _⟩
  have h2 := heap_alloc_new u.drew (.cells (bytesRow ⟨xs.toArray⟩ (grownCap u (⟨xs.toArray⟩ : ByteArray).size 0 5)) 5 ((bytesRow ⟨xs.toArray⟩ (grownCap u (⟨xs.toArray⟩ : ByteArray).size 0 5)).size, (bytesRow ⟨xs.toArray⟩ (grownCap u (⟨xs.toArray⟩ : ByteArray).size 0 5)).size + 1))
  show (u.drew.alloc _).cell? ⟨u.drew.heap.size, 0 + i, none⟩ = _
  rw [Nat.zero_add, cell_of_row _ _ _ _ _ _ h2, bytesRow_get _ _ i (by show i < xs.toArray.size; simpa using hi)]
/-- the law's unit of data -/
def oneU (e s : Nat) (i c : Int) (xs : List UInt8) : Un := ⟨1, e, s, 2, i, c, xs, 0, []⟩
theorem one_t (e s : Nat) (i c : Int) (xs : List UInt8) (w : World) : Calls Tryz.prog 17 #[.int .u64 (e : Int), .int .u64 (s : Int), .int .i64 i, .int .i64 c, .string ⟨xs.toArray⟩] w fun r w' => ∃ g cp, r = .returned (unV (oneU e s i c xs) (some ⟨g, 0, none⟩) xs.length cp none 0 0) ∧ Rd w' (some ⟨g, 0, none⟩) xs ∧ w.heap.size ≤ g ∧ Below w.heap.size w w' := by
  obtain ⟨w1, hw1⟩ : ∃ w1, w1 = w.alloc (.cells #[.int .i64 0, .int .u64 0, .int .u64 0, .int .i64 0, .int .i64 0, .int .i64 0, .slice none 0 0, .int .i64 0, .slice none 0 0] tUn) := ⟨_, rfl⟩
  obtain ⟨cp, w2, hcv, hrd, hb2⟩ := convB w1 xs
  have hb1 : Below w.heap.size w w1 := by rw [hw1]; exact al (Below.refl _ _) _
  have hz1 : w1.heap.size = w.heap.size + 1 := by rw [hw1]; simp
  obtain ⟨P, hP⟩ : ∃ P, P = w.heap.size := ⟨_, rfl⟩
  have hA : w2.heap[P]? = some (.cells (unC 0 0 0 0 0 0 none 0 0 0 none 0 0) tUn (0, 0)) := (hb2.block P (by omega)).trans (by rw [hw1, hP]; exact heap_alloc_new w _)
  have hc := unCell hA
  have hf : ∀ j, w2.frozen? ⟨P, j, none⟩ = false := fun j => by simp [World.frozen?, hA]
  have f0 := hf 0
  have f1 := hf 1
  have f2 := hf 2
  have f3 := hf 3
  have f4 := hf 4
  have f5 := hf 5
  have f6 := hf 6
  have f7 := hf 7
  have f8 := hf 8
  obtain ⟨g, hg⟩ : ∃ g, g = w1.heap.size := ⟨_, rfl⟩
  rw [← hg] at hcv hrd
  have HRD : Hid (Rd w2 (some ⟨g, 0, none⟩) xs) := hrd
  have HG : Hid (g = P + 1) := by unfold Hid; omega
  have HP : Hid (P = w.heap.size) := hP
  have HB2 : Hid (Below w.heap.size w w2) := below_next hb1 hb2
  have HW1 : Hid (w1 = _) := hw1
  rw [hw1] at hcv
  obtain ⟨N, hN⟩ : ∃ N, N = xs.length := ⟨_, rfl⟩
  rw [← hN] at hcv ⊢
  rw [hP] at hc f0 f1 f2 f3 f4 f5 f6 f7 f8
  clear hrd hb1 hb2 hz1 hP hw1 hg hA hf hN
  go_enter Tryz.func17, Tryz.ntmps17
  go_wp2
  refine bodyPost_ret (v := .agg #[.int .i64 1, .int .u64 (e : Int), .int .u64 (s : Int), .int .i64 2, .int .i64 i, .int .i64 c, .slice (some ⟨g, 0, none⟩) N cp, .int .i64 0, .slice none 0 0]) (by simp [results, Tryz.results17, go_sem, hc, f0, f1, f2, f3, f4, f5, f6, f7, f8]) rfl ?_
  have hgs := ((((((((gset1 w2 w.heap.size 0 (.int .i64 1)).trans' (gset1 _ w.heap.size 1 (.int .u64 (e : Int)))).trans' (gset1 _ w.heap.size 2 (.int .u64 (s : Int)))).trans' (gset1 _ w.heap.size 3 (.int .i64 2))).trans' (gset1 _ w.heap.size 4 (.int .i64 i))).trans' (gset1 _ w.heap.size 5 (.int .i64 c))).trans' (gset1 _ w.heap.size 6 (.slice (some ⟨g, 0, none⟩) N cp))).trans' (gset1 _ w.heap.size 7 (.int .i64 0))).trans' (gset1 _ w.heap.size 8 (.slice none 0 0))
  have hgp := HG.out
  have hpw := HP.out
  exact ⟨g, cp, rfl, Rd.grown HRD.out hgs (fun a ha e9 => by cases ha; have h9 : g = w.heap.size := Option.some.inj e9; omega), by omega, HB2.out.grown hgs HB2.out.size (fun k hk => by have := Option.some.inj hk; omega)⟩
end
end Go.Proofs.YtkdgjfjcpgiokaaGreat
