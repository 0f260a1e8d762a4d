import Derived.Test.YtekfolppahnpoaaDLoad
import Derived.Test.YtekfolppahnpoaaClone
import Derived.Test.YtekfolppahnpoaaRegn
namespace Go.Proofs.Ytekfolppahnpoaa
set_option linter.unusedVariables false
set_option linter.unusedSimpArgs false
open Go.RowKit
/-- a sector's text of that number -/
def fillB (n i : Nat) : Nat := if i = 0 then n else if i = 1 then n / 256 else if i = 2 then n / 65536 else n % 251 + i
def fillS (n : Nat) : List UInt8 := (List.range 128).map fun i => UInt8.ofNat (fillB n i)
theorem fillS_len (n : Nat) : (fillS n).length = 128 := by simp [fillS]
/-- in the making -/
def fillP (n k : Nat) : List UInt8 := (List.range 128).map fun i => if i < k then UInt8.ofNat (fillB n i) else 0
theorem fillP_len (n k : Nat) : (fillP n k).length = 128 := by simp [fillP]
theorem fillP_all (n : Nat) : fillP n 128 = fillS n := by
  unfold fillP fillS
  apply List.map_congr_left
  intro i hi
  rw [if_pos (by simpa using hi)]
theorem fillP_none (n : Nat) : bv (fillP n 0) = List.replicate 128 (.int .u8 0) := by
  refine List.ext_getElem (by rw [bv_length, fillP_len, List.length_replicate]) (fun i h1 h2 => ?_)
  rw [List.getElem_replicate]
  simp [bv, fillP]
theorem fillP_set (n k : Nat) (h : k < 128) : (bv (fillP n k)).set k (.int .u8 ((UInt8.ofNat (fillB n k)).toNat : Int)) = bv (fillP n (k + 1)) := by
  refine List.ext_getElem (by simp [bv_length, fillP_len]) (fun i h1 h2 => ?_)
  rw [List.getElem_set]
  by_cases e : k = i
  · subst e
    simp [bv, fillP]
  · rw [if_neg e]
    simp only [bv, fillP, List.getElem_map, List.getElem_range]
    by_cases h3 : i < k
    · rw [if_pos h3, if_pos (by omega)]
    · rw [if_neg h3, if_neg (by omega)]
theorem u8n (n : Nat) : ((UInt8.ofNat n).toNat : Int) = (n : Int) % 256 := by simp
set_option maxRecDepth 20000 in
set_option maxHeartbeats 400000 in
theorem fill_t (n : Nat) (w : World) (hn : n ≤ 140737488355328) :
    Calls Try.prog 18 #[.int .i64 (n : Int)] w fun e w' => ∃ g, e = .returned (.slice (some ⟨g, 0, none⟩) 128 128) ∧ w.heap.size ≤ g ∧ w'.heap[g]? = some (.cells (bv (fillS n)).toArray 5 (0, 0)) ∧ Below w.heap.size w w' := by
  have hmk : ∀ w, (Instr.makeSlice 40 (.int .i64 128) (.int .i64 128)).run Try.prog w = .ok (.slice (some ⟨w.heap.size, 0, none⟩) 128 128) (w.alloc (.cells (List.replicate 128 (Value.int .u8 0)).toArray 5)) := fun w => make_bytes 128 (by decide) w
  obtain ⟨Z, hZ⟩ : ∃ Z : Array Value, Z = (List.replicate 128 (Value.int .u8 0)).toArray := ⟨_, rfl⟩
  rw [← hZ] at hmk
  have HZ : Hid (Z = (bv (fillP n 0)).toArray) := by unfold Hid; rw [hZ, fillP_none]
  have hz0 : Z[0]? = some (.int .u8 0) := by rw [hZ]; rfl
  have hz1 : Z[1]? = some (.int .u8 0) := by rw [hZ]; rfl
  have hz2 : Z[2]? = some (.int .u8 0) := by rw [hZ]; rfl
  have HZs : Hid (Z.size = 128) := by unfold Hid; rw [hZ, List.size_toArray, List.length_replicate]
  clear hZ
  go_enter Try.func18, Try.ntmps18
  go_wp2
  go_loopw [4] (fun i wr => ∃ k : Nat, 3 ≤ k ∧ k ≤ 128 ∧ i = .int .i64 k ∧ wr.heap[w.heap.size]? = some (.cells (bv (fillP n k)).toArray 5 (0, 0)) ∧ Below w.heap.size w wr) (fun i _ => 128 - (intOf i).toNat)
  case atStart =>
    refine ⟨3, by decide, by decide, rfl, ?_, al (Below.refl _ _) _⟩
    rw [heap_alloc_new, HZ.out]
    have e0 : (Value.int .u8 ((n : Int) % 256)) = .int .u8 ((UInt8.ofNat (fillB n 0)).toNat : Int) := by rw [u8n]; rfl
    have e1 : (Value.int .u8 ((n : Int) / 256 % 256)) = .int .u8 ((UInt8.ofNat (fillB n 1)).toNat : Int) := by rw [u8n]; simp [fillB]
    have e2 : (Value.int .u8 ((n : Int) / 65536 % 256)) = .int .u8 ((UInt8.ofNat (fillB n 2)).toNat : Int) := by rw [u8n]; simp [fillB]
    rw [e0, e1, e2]
    have q0 := fillP_set n 0 (by decide)
    have q1 := fillP_set n 1 (by decide)
    have q2 := fillP_set n 2 (by decide)
    simp only [List.setIfInBounds_toArray]
    rw [q0, q1, q2]
  case round =>
    obtain ⟨k, hk3, hk, rfl, hrow, hbk⟩ := hrel
    by_cases hlt : k < 128
    · have hki : (k : Int) < 128 := by omega
      have hk0 : (0 : Int) ≤ (k : Int) := by omega
      obtain ⟨u0, hu0⟩ : ∃ u0, wr.cell? ⟨w.heap.size, k, none⟩ = some u0 := by
        rw [cell_of_row _ _ k _ _ _ hrow, List.getElem?_toArray, List.getElem?_eq_getElem (by rw [bv_length, fillP_len]; exact hlt)]
        exact ⟨_, rfl⟩
      have hf0 := frozen_of_row wr w.heap.size k _ _ hrow
      have e3 : (Value.int .u8 (((n : Int) % 251 + (k : Int)) % 256)) = .int .u8 ((UInt8.ofNat (fillB n k)).toNat : Int) := by
        rw [u8n]
        congr 1
        have : fillB n k = n % 251 + k := by unfold fillB; rw [if_neg (by omega), if_neg (by omega), if_neg (by omega)]
        rw [this]
        omega
      have HNX : Hid ((wr.setCell ⟨w.heap.size, k, none⟩ (.int .u8 (((n : Int) % 251 + (k : Int)) % 256))).heap[w.heap.size]? = some (.cells (bv (fillP n (k + 1))).toArray 5 (0, 0))) := by
        unfold Hid
        rw [heap_setCell_same wr w.heap.size k _ _ _ hrow, e3, List.setIfInBounds_toArray, fillP_set n k hlt]
      clear e3
      go_wp2
      go_roundw
      case rel => exact ⟨k + 1, by omega, by omega, by go_num, HNX.out, hbk.setCell (p := ⟨w.heap.size, k, none⟩) (Nat.le_refl _) _⟩
      case measure => simp [intOf]; omega
    · obtain rfl : k = 128 := by omega
      rw [fillP_all] at hrow
      rw [show ((128 : Nat) : Int) = 128 from rfl]
      go_wp2
      go_ret
      exact ⟨w.heap.size, rfl, Nat.le_refl _, hrow, hbk⟩
end Go.Proofs.Ytekfolppahnpoaa
namespace Go.Proofs.Ytekfolppahnpoaa
set_option linter.unusedVariables false
set_option linter.unusedSimpArgs false
open Go.RowKit
theorem take_eq_step {xs ys : List UInt8} {k : Nat} (h : xs.take k = ys.take k) (h1 : k < xs.length) (h2 : k < ys.length) (e : xs[k] = ys[k]) : xs.take (k + 1) = ys.take (k + 1) := by
  rw [List.take_succ_eq_append_getElem h1, List.take_succ_eq_append_getElem h2, h, e]
set_option maxRecDepth 20000 in
set_option maxHeartbeats 800000 in
theorem byt_t (ao bo : Option Addr) (c d : Nat) (xs ys : List UInt8) (w : World) (hx : Rd w ao xs) (hy : Rd w bo ys) (hl : xs.length ≤ 140737488355328) (hl2 : ys.length ≤ 140737488355328) :
    Calls Try.prog 12 #[.slice ao xs.length c, .slice bo ys.length d] w fun e w' => e = .returned (.bool (xs == ys)) ∧ Below w.heap.size w w' := by
  by_cases hne : xs.length = ys.length
  case neg =>
    have e : (xs == ys) = false := by rw [beq_eq_false_iff_ne]; intro h; exact hne (by rw [h])
    rw [e]
    clear e
    have hni : ¬ (xs.length : Int) = (ys.length : Int) := by omega
    go_enter Try.func12, Try.ntmps12
    go_wp2
    go_ret
    exact ⟨rfl, Below.refl _ _⟩
  case pos =>
    have HNE : Hid (xs.length = ys.length) := hne
    have hni : (xs.length : Int) = (ys.length : Int) := by omega
    obtain ⟨n, hn⟩ : ∃ n : Nat, n = xs.length := ⟨_, rfl⟩
    rw [← hne, ← hn]
    have HN : Hid (n = xs.length) := hn
    have hnb : n ≤ 140737488355328 := by omega
    clear hne hni hn hl hl2
    go_enter Try.func12, Try.ntmps12
    go_wp2
    go_loopw [5] (fun i wr => ∃ k : Nat, k ≤ n ∧ i = .int .i64 k ∧ xs.take k = ys.take k ∧ Below w.heap.size w wr) (fun i _ => n - (intOf i).toNat)
    case atStart => exact ⟨0, Nat.zero_le _, rfl, rfl, Below.refl _ _⟩
    case round =>
      obtain ⟨k, hk, rfl, htk, hbk⟩ := hrel
      have HTK : Hid _ := htk
      clear htk
      by_cases hlt : k < n
      · have h1 : k < xs.length := by have := HN.out; omega
        have h2 : k < ys.length := by have := HN.out; have := HNE.out; omega
        obtain ⟨b1, o1, rfl, hc1⟩ := hx (by omega)
        obtain ⟨b2, o2, rfl, hc2⟩ := hy (by omega)
        have hca : ∀ u, Below wr.heap.size wr u → u.cell? ⟨b1, o1 + k, none⟩ = some (.int .u8 (xs[k].toNat : Int)) := fun u hu => ((hbk.trans (hu.mono hbk.size)).cell (World.block_lt_of_cell? w _ (hc1 k h1))).trans (hc1 k h1)
        have hcb : ∀ u, Below wr.heap.size wr u → u.cell? ⟨b2, o2 + k, none⟩ = some (.int .u8 (ys[k].toNat : Int)) := fun u hu => ((hbk.trans (hu.mono hbk.size)).cell (World.block_lt_of_cell? w _ (hc2 k h2))).trans (hc2 k h2)
        have hk0 : (0 : Int) ≤ (k : Int) := by omega
        have hk1 : (k : Int) < (n : Int) := by omega
        clear hc1 hc2
        obtain ⟨x, hxx⟩ : ∃ x : Int, x = (xs[k].toNat : Int) := ⟨_, rfl⟩
        obtain ⟨y, hyy⟩ : ∃ y : Int, y = (ys[k].toNat : Int) := ⟨_, rfl⟩
        rw [← hxx] at hca
        rw [← hyy] at hcb
        have HXX : Hid _ := hxx
        have HYY : Hid _ := hyy
        clear hxx hyy
        by_cases hxy : x = y
        · subst hxy
          go_wp2_with fail
          refine wp_region_noPanic ?_
          refine wp_region_held_drew (S := (fun u => Below wr.heap.size wr u)) (by kernel_rfl) (by first | exact (Below.refl _ _).drew | assumption) (fun hHeld => ?_)
          refine take_at (i := 0) 17 (v := ?_) rfl rfl (by kernel_rfl) (by kernel_rfl) (by kernel_rfl) (fun _ _ _ h => h) (by rfl) ?_ hHeld ?_
          rotate_left
          · (intro w hSw; (try dsimp only at hSw); go_simp; try with_reducible rfl)
          simp only [Act.put, List.setIfInBounds_toArray, List.set_cons_zero, List.set_cons_succ]
          refine take_at (i := 1) 18 (v := ?_) rfl rfl (by kernel_rfl) (by kernel_rfl) (by kernel_rfl) (fun _ _ _ h => h) (by rfl) ?_ hHeld ?_
          rotate_left
          · (intro w hSw; (try dsimp only at hSw); go_simp; try with_reducible rfl)
          simp only [Act.put, List.setIfInBounds_toArray, List.set_cons_zero, List.set_cons_succ]
          refine take_at (i := 2) 19 (v := ?_) rfl rfl (by kernel_rfl) (by kernel_rfl) (by kernel_rfl) (fun _ _ _ h => h) (by rfl) ?_ hHeld ?_
          rotate_left
          · (intro w hSw; (try dsimp only at hSw); go_simp; try with_reducible rfl)
          simp only [Act.put, List.setIfInBounds_toArray, List.set_cons_zero, List.set_cons_succ]
          refine take_at (i := 3) 20 (v := ?_) rfl rfl (by kernel_rfl) (by kernel_rfl) (by kernel_rfl) (fun _ _ _ h => h) (by rfl) ?_ hHeld ?_
          rotate_left
          · (intro w hSw; (try dsimp only at hSw); go_simp; try with_reducible rfl)
          simp only [Act.put, List.setIfInBounds_toArray, List.set_cons_zero, List.set_cons_succ]
          refine take_at (i := 4) 21 (v := ?_) rfl rfl (by kernel_rfl) (by kernel_rfl) (by kernel_rfl) (fun _ _ _ h => h) (by rfl) ?_ hHeld ?_
          rotate_left
          · (intro w hSw; (try dsimp only at hSw); go_simp; try with_reducible rfl)
          simp only [Act.put, List.setIfInBounds_toArray, List.set_cons_zero, List.set_cons_succ]
          refine take_at (i := 5) 22 (v := ?_) rfl rfl (by kernel_rfl) (by kernel_rfl) (by kernel_rfl) (fun _ _ _ h => h) (by rfl) ?_ hHeld ?_
          rotate_left
          · (intro w hSw; (try dsimp only at hSw); go_simp; try with_reducible rfl)
          simp only [Act.put, List.setIfInBounds_toArray, List.set_cons_zero, List.set_cons_succ]
          refine take_at (i := 6) 23 (v := ?_) rfl rfl (by kernel_rfl) (by kernel_rfl) (by kernel_rfl) (fun _ _ _ h => h) (by rfl) ?_ hHeld ?_
          rotate_left
          · (intro w hSw; (try dsimp only at hSw); go_simp; try with_reducible rfl)
          simp only [Act.put, List.setIfInBounds_toArray, List.set_cons_zero, List.set_cons_succ]
          refine take_at (i := 7) 24 (v := ?_) rfl rfl (by kernel_rfl) (by kernel_rfl) (by kernel_rfl) (fun _ _ _ h => h) (by rfl) ?_ hHeld ?_
          rotate_left
          · (intro w hSw; (try dsimp only at hSw); go_simp; try with_reducible rfl)
          simp only [Act.put, List.setIfInBounds_toArray, List.set_cons_zero, List.set_cons_succ]
          refine take_at (i := 8) 25 (v := ?_) rfl rfl (by kernel_rfl) (by kernel_rfl) (by kernel_rfl) (fun _ _ _ h => h) (by rfl) ?_ hHeld ?_
          rotate_left
          · (intro w hSw; (try dsimp only at hSw); go_simp; try with_reducible rfl)
          simp only [Act.put, List.setIfInBounds_toArray, List.set_cons_zero, List.set_cons_succ]
          refine wpAnyH_done (by kernel_rfl) ?_ _
          refine NoPanic.normal ?_
          go_wp2
          go_roundw
          case rel => exact ⟨k + 1, by omega, by go_num, take_eq_step HTK.out h1 h2 (UInt8.toNat_inj.1 (by have := HXX.out; have := HYY.out; omega)), hbk.drew⟩
          case measure => simp [intOf]; omega
        · have hb : (x == y) = false := by simpa using hxy
          have e : (xs == ys) = false := by
            rw [beq_eq_false_iff_ne]
            intro h
            subst h
            exact hxy (by rw [HXX.out, HYY.out])
          have HE : Hid _ := e
          clear e
          go_wp2_with fail
          refine wp_region_noPanic ?_
          refine wp_region_held_drew (S := (fun u => Below wr.heap.size wr u)) (by kernel_rfl) (by first | exact (Below.refl _ _).drew | assumption) (fun hHeld => ?_)
          refine take_at (i := 0) 17 (v := ?_) rfl rfl (by kernel_rfl) (by kernel_rfl) (by kernel_rfl) (fun _ _ _ h => h) (by rfl) ?_ hHeld ?_
          rotate_left
          · (intro w hSw; (try dsimp only at hSw); go_simp; try with_reducible rfl)
          simp only [Act.put, List.setIfInBounds_toArray, List.set_cons_zero, List.set_cons_succ]
          refine take_at (i := 1) 18 (v := ?_) rfl rfl (by kernel_rfl) (by kernel_rfl) (by kernel_rfl) (fun _ _ _ h => h) (by rfl) ?_ hHeld ?_
          rotate_left
          · (intro w hSw; (try dsimp only at hSw); go_simp; try with_reducible rfl)
          simp only [Act.put, List.setIfInBounds_toArray, List.set_cons_zero, List.set_cons_succ]
          refine take_at (i := 2) 19 (v := ?_) rfl rfl (by kernel_rfl) (by kernel_rfl) (by kernel_rfl) (fun _ _ _ h => h) (by rfl) ?_ hHeld ?_
          rotate_left
          · (intro w hSw; (try dsimp only at hSw); go_simp; try with_reducible rfl)
          simp only [Act.put, List.setIfInBounds_toArray, List.set_cons_zero, List.set_cons_succ]
          refine take_at (i := 3) 20 (v := ?_) rfl rfl (by kernel_rfl) (by kernel_rfl) (by kernel_rfl) (fun _ _ _ h => h) (by rfl) ?_ hHeld ?_
          rotate_left
          · (intro w hSw; (try dsimp only at hSw); go_simp; try with_reducible rfl)
          simp only [Act.put, List.setIfInBounds_toArray, List.set_cons_zero, List.set_cons_succ]
          refine take_at (i := 4) 21 (v := ?_) rfl rfl (by kernel_rfl) (by kernel_rfl) (by kernel_rfl) (fun _ _ _ h => h) (by rfl) ?_ hHeld ?_
          rotate_left
          · (intro w hSw; (try dsimp only at hSw); go_simp; try with_reducible rfl)
          simp only [Act.put, List.setIfInBounds_toArray, List.set_cons_zero, List.set_cons_succ]
          refine take_at (i := 5) 22 (v := ?_) rfl rfl (by kernel_rfl) (by kernel_rfl) (by kernel_rfl) (fun _ _ _ h => h) (by rfl) ?_ hHeld ?_
          rotate_left
          · (intro w hSw; (try dsimp only at hSw); go_simp; try with_reducible rfl)
          simp only [Act.put, List.setIfInBounds_toArray, List.set_cons_zero, List.set_cons_succ]
          refine take_at (i := 6) 23 (v := ?_) rfl rfl (by kernel_rfl) (by kernel_rfl) (by kernel_rfl) (fun _ _ _ h => h) (by rfl) ?_ hHeld ?_
          rotate_left
          · (intro w hSw; (try dsimp only at hSw); go_simp; try with_reducible rfl)
          simp only [Act.put, List.setIfInBounds_toArray, List.set_cons_zero, List.set_cons_succ]
          refine take_at (i := 7) 24 (v := ?_) rfl rfl (by kernel_rfl) (by kernel_rfl) (by kernel_rfl) (fun _ _ _ h => h) (by rfl) ?_ hHeld ?_
          rotate_left
          · (intro w hSw; (try dsimp only at hSw); go_simp; try with_reducible rfl)
          simp only [Act.put, List.setIfInBounds_toArray, List.set_cons_zero, List.set_cons_succ]
          refine take_at (i := 8) 25 (v := ?_) rfl rfl (by kernel_rfl) (by kernel_rfl) (by kernel_rfl) (fun _ _ _ h => h) (by rfl) ?_ hHeld ?_
          rotate_left
          · (intro w hSw; (try dsimp only at hSw); go_simp; try with_reducible rfl)
          simp only [Act.put, List.setIfInBounds_toArray, List.set_cons_zero, List.set_cons_succ]
          refine wpAnyH_done (by kernel_rfl) ?_ _
          refine NoPanic.normal ?_
          go_wp2
          go_ret
          rw [HE.out]
          exact ⟨rfl, hbk.drew⟩
      · obtain rfl : k = n := by omega
        have e : (xs == ys) = true := by
          have h1 := HTK.out
          rw [List.take_of_length_le (by have := HN.out; omega), List.take_of_length_le (by have := HN.out; have := HNE.out; omega)] at h1
          rw [h1]; simp
        have HE : Hid _ := e
        clear e
        go_wp2
        go_ret
        rw [HE.out]
        exact ⟨rfl, hbk⟩
theorem byt_n (ao bo : Option Addr) (n m c d : Nat) (xs ys : List UInt8) (w : World) (hn : n = xs.length) (hm : m = ys.length) (hx : Rd w ao xs) (hy : Rd w bo ys) (hl : xs.length ≤ 140737488355328) (hl2 : ys.length ≤ 140737488355328) :
    Calls Try.prog 12 #[.slice ao n c, .slice bo m d] w fun e w' => e = .returned (.bool (xs == ys)) ∧ Below w.heap.size w w' := by subst hn; subst hm; exact byt_t ao bo c d xs ys w hx hy hl hl2
end Go.Proofs.Ytekfolppahnpoaa
