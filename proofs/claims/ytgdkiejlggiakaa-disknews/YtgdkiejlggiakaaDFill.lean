import Derived.Test.YtgdkiejlggiakaaDLoad
namespace Go.Proofs.Ytgdkiejlggiakaa
set_option linter.unusedVariables false
set_option linter.unusedSimpArgs false
open Go.RowKit
/-- a sector's text of that number -/
def fillB (n i : Nat) : Nat := if i = 0 then n else if i = 1 then n / 256 else if i = 2 then n / 65536 else n % 251 + i
def fillS (n : Nat) : List UInt8 := (List.range 128).map fun i => UInt8.ofNat (fillB n i)
theorem fillS_len (n : Nat) : (fillS n).length = 128 := by simp [fillS]
/-- in the making -/
def fillP (n k : Nat) : List UInt8 := (List.range 128).map fun i => if i < k then UInt8.ofNat (fillB n i) else 0
theorem fillP_len (n k : Nat) : (fillP n k).length = 128 := by simp [fillP]
theorem fillP_all (n : Nat) : fillP n 128 = fillS n := by
  unfold fillP fillS
  apply List.map_congr_left
  intro i hi
  rw [if_pos (by simpa using hi)]
theorem fillP_none (n : Nat) : bv (fillP n 0) = List.replicate 128 (.int .u8 0) := by
  refine List.ext_getElem (by rw [bv_length, fillP_len, List.length_replicate]) (fun i h1 h2 => ?_)
  rw [List.getElem_replicate]
  simp [bv, fillP]
theorem fillP_set (n k : Nat) (h : k < 128) : (bv (fillP n k)).set k (.int .u8 ((UInt8.ofNat (fillB n k)).toNat : Int)) = bv (fillP n (k + 1)) := by
  refine List.ext_getElem (by simp [bv_length, fillP_len]) (fun i h1 h2 => ?_)
  rw [List.getElem_set]
  by_cases e : k = i
  · subst e
    simp [bv, fillP]
  · rw [if_neg e]
    simp only [bv, fillP, List.getElem_map, List.getElem_range]
    by_cases h3 : i < k
    · rw [if_pos h3, if_pos (by omega)]
    · rw [if_neg h3, if_neg (by omega)]
theorem u8n (n : Nat) : ((UInt8.ofNat n).toNat : Int) = (n : Int) % 256 := by simp
set_option maxRecDepth 20000 in
set_option maxHeartbeats 400000 in
theorem fill_t (n : Nat) (w : World) (hn : n ≤ 140737488355328) :
    Calls Try.prog 17 #[.int .i64 (n : Int)] w fun e w' => ∃ g, e = .returned (.slice (some ⟨g, 0, none⟩) 128 128) ∧ w.heap.size ≤ g ∧ w'.heap[g]? = some (.cells (bv (fillS n)).toArray 5 (0, 0)) ∧ Below w.heap.size w w' := by
  have hmk : ∀ w, (Instr.makeSlice 28 (.int .i64 128) (.int .i64 128)).run Try.prog w = .ok (.slice (some ⟨w.heap.size, 0, none⟩) 128 128) (w.alloc (.cells (List.replicate 128 (Value.int .u8 0)).toArray 5)) := fun w => make_bytes 128 (by decide) w
  obtain ⟨Z, hZ⟩ : ∃ Z : Array Value, Z = (List.replicate 128 (Value.int .u8 0)).toArray := ⟨_, rfl⟩
  rw [← hZ] at hmk
  have HZ : Hid (Z = (bv (fillP n 0)).toArray) := by unfold Hid; rw [hZ, fillP_none]
  have hz0 : Z[0]? = some (.int .u8 0) := by rw [hZ]; rfl
  have hz1 : Z[1]? = some (.int .u8 0) := by rw [hZ]; rfl
  have hz2 : Z[2]? = some (.int .u8 0) := by rw [hZ]; rfl
  have HZs : Hid (Z.size = 128) := by unfold Hid; rw [hZ, List.size_toArray, List.length_replicate]
  clear hZ
  go_enter Try.func17, Try.ntmps17
  go_wp2
  go_loopw [4] (fun i wr => ∃ k : Nat, 3 ≤ k ∧ k ≤ 128 ∧ i = .int .i64 k ∧ wr.heap[w.heap.size]? = some (.cells (bv (fillP n k)).toArray 5 (0, 0)) ∧ Below w.heap.size w wr) (fun i _ => 128 - (intOf i).toNat)
  case atStart =>
    refine ⟨3, by decide, by decide, rfl, ?_, al (Below.refl _ _) _⟩
    rw [heap_alloc_new, HZ.out]
    have e0 : (Value.int .u8 ((n : Int) % 256)) = .int .u8 ((UInt8.ofNat (fillB n 0)).toNat : Int) := by rw [u8n]; rfl
    have e1 : (Value.int .u8 ((n : Int) / 256 % 256)) = .int .u8 ((UInt8.ofNat (fillB n 1)).toNat : Int) := by rw [u8n]; simp [fillB]
    have e2 : (Value.int .u8 ((n : Int) / 65536 % 256)) = .int .u8 ((UInt8.ofNat (fillB n 2)).toNat : Int) := by rw [u8n]; simp [fillB]
    rw [e0, e1, e2]
    have q0 := fillP_set n 0 (by decide)
    have q1 := fillP_set n 1 (by decide)
    have q2 := fillP_set n 2 (by decide)
    simp only [List.setIfInBounds_toArray]
    rw [q0, q1, q2]
  case round =>
    obtain ⟨k, hk3, hk, rfl, hrow, hbk⟩ := hrel
    by_cases hlt : k < 128
    · have hki : (k : Int) < 128 := by omega
      have hk0 : (0 : Int) ≤ (k : Int) := by omega
      obtain ⟨u0, hu0⟩ : ∃ u0, wr.cell? ⟨w.heap.size, k, none⟩ = some u0 := by
        rw [cell_of_row _ _ k _ _ _ hrow, List.getElem?_toArray, List.getElem?_eq_getElem (by rw [bv_length, fillP_len]; exact hlt)]
        exact ⟨_, rfl⟩
      have hf0 := frozen_of_row wr w.heap.size k _ _ hrow
      have e3 : (Value.int .u8 (((n : Int) % 251 + (k : Int)) % 256)) = .int .u8 ((UInt8.ofNat (fillB n k)).toNat : Int) := by
        rw [u8n]
        congr 1
        have : fillB n k = n % 251 + k := by unfold fillB; rw [if_neg (by omega), if_neg (by omega), if_neg (by omega)]
        rw [this]
        omega
      have HNX : Hid ((wr.setCell ⟨w.heap.size, k, none⟩ (.int .u8 (((n : Int) % 251 + (k : Int)) % 256))).heap[w.heap.size]? = some (.cells (bv (fillP n (k + 1))).toArray 5 (0, 0))) := by
        unfold Hid
        rw [heap_setCell_same wr w.heap.size k _ _ _ hrow, e3, List.setIfInBounds_toArray, fillP_set n k hlt]
      clear e3
      go_wp2
      go_roundw
      case rel => exact ⟨k + 1, by omega, by omega, by go_num, HNX.out, hbk.setCell (p := ⟨w.heap.size, k, none⟩) (Nat.le_refl _) _⟩
      case measure => simp [intOf]; omega
    · obtain rfl : k = 128 := by omega
      rw [fillP_all] at hrow
      rw [show ((128 : Nat) : Int) = 128 from rfl]
      go_wp2
      go_ret
      exact ⟨w.heap.size, rfl, Nat.le_refl _, hrow, hbk⟩
end Go.Proofs.Ytgdkiejlggiakaa
