import Derived.Test.YtekfolppahnpoaaDSecs
import Derived.Test.YtekfolppahnpoaaDTell
namespace Go.Proofs.Ytekfolppahnpoaa
set_option linter.unusedVariables false
set_option linter.unusedSimpArgs false
open Go.RowKit
/-- an image in the making -/
def imgP (S : List Sec) (k : Nat) : List UInt8 := img (S.take k) ++ List.replicate ((S.length - k) * 129) 0
theorem imgP_len {S : List Sec} (h : SOk S) (k : Nat) (hk : k ≤ S.length) : (imgP S k).length = S.length * 129 := by
  unfold imgP
  rw [List.length_append, img_len (fun s hs => h s (List.mem_of_mem_take hs)), List.length_take, List.length_replicate, Nat.min_eq_left hk, ← Nat.add_mul]
  congr 1; omega
theorem imgP_step {S : List Sec} (h : SOk S) (k : Nat) (hk : k < S.length) : splice (bv (imgP S k)) (k * 129) (bv S[k].row) = bv (imgP S (k + 1)) := by
  have hl : (bv (img (S.take k))).length = k * 129 := by rw [bv_length, img_len (fun s hs => h s (List.mem_of_mem_take hs)), List.length_take, Nat.min_eq_left (by omega)]
  have hr : (bv S[k].row).length = 129 := by rw [bv_length, Sec.row_len (h _ (List.getElem_mem hk))]
  unfold imgP splice
  rw [bv_append, bv_append, List.take_left' hl, hr, ← List.drop_drop, List.drop_left' hl, List.take_succ_eq_append_getElem hk]
  simp only [img, List.flatMap_append, List.flatMap_cons, List.flatMap_nil, List.append_nil, bv_append, List.append_assoc]
  congr 2
  have e : (S.length - k) * 129 = 129 + (S.length - (k + 1)) * 129 := by
    rw [show S.length - k = (S.length - (k + 1)) + 1 from by omega, Nat.succ_mul]; omega
  rw [e, ← List.replicate_append_replicate, bv_append, List.drop_left' (by simp [bv])]
theorem imgP_all (S : List Sec) : imgP S S.length = img S := by simp [imgP]
theorem imgP_none (S : List Sec) : bv (imgP S 0) = List.replicate (S.length * 129) (.int .u8 0) := by simp [imgP, img, bv]
theorem imgP_zero {S : List Sec} (h : SOk S) (k : Nat) (hk : k < S.length) : (bv (imgP S k))[k * 129]? = some (.int .u8 0) := by
  have hl : (bv (img (S.take k))).length = k * 129 := by rw [bv_length, img_len (fun s hs => h s (List.mem_of_mem_take hs)), List.length_take, Nat.min_eq_left (by omega)]
  unfold imgP
  rw [bv_append, List.getElem?_append_right (by omega), hl, Nat.sub_self]
  have : 0 < (S.length - k) * 129 := Nat.mul_pos (by omega) (by decide)
  simp [bv, this]
theorem made_u8s (n : Nat) : (madeCells (Value.cells (.int .u8 0)) (n * 1)) = (List.replicate n (Value.int .u8 0)).toArray := by
  apply Array.ext'
  apply List.ext_getElem
  · simp [madeCells]
  · intro i h1 h2
    simp [madeCells, Value.cells, Nat.mod_one]
theorem make_bytes (n : Nat) (hn : n ≤ 140737488355328) (w : World) : (Instr.makeSlice 40 (.int .i64 (n : Int)) (.int .i64 (n : Int))).run Try.prog w = .ok (.slice (some ⟨w.heap.size, 0, none⟩) n n) (w.alloc (.cells (List.replicate n (Value.int .u8 0)).toArray 5)) := by
  obtain ⟨i0, hi, hz0, hz1, hz2⟩ := info_parts info5
  have hmk := run_make (P := Try.prog) w 40 5 i0 (.int .u8 0) Try.underlying40 hi hz0 .i64 .i64 (n : Int) (n : Int) (by omega) (Int.le_refl _) (by rw [hz2]; omega) (by omega)
  rw [hz1, Int.toNat_natCast, made_u8s] at hmk
  exact hmk
/-- the sectors of the disk at p lie in block g -/
structure SecAt (w : World) (p g : Nat) (S : List Sec) : Prop where
  ok : SOk S
  one : 1 ≤ S.length
  most : S.length ≤ 65536
  head : ∃ cap, w.cell? ⟨p, 0, none⟩ = some (.slice (some ⟨g, 0, none⟩) S.length cap) ∧ S.length ≤ cap ∧ cap ≤ 65536
  row : ∀ k (h : k < S.length), w.rangeAt g (k * 129) S[k].cells
theorem rangeAt_below {w w' : World} {b o : Nat} {cs : List Value} (h : w.rangeAt b o cs) (hb : Below w.heap.size w w') : w'.rangeAt b o cs := fun j v hv => (hb.cell (World.block_lt_of_cell? w _ (h j v hv))).trans (h j v hv)
theorem range_lt {w : World} {b o : Nat} {cs : List Value} (h : w.rangeAt b o cs) (hl : 0 < cs.length) : b < w.heap.size := World.block_lt_of_cell? w _ (h 0 cs[0] (List.getElem?_eq_getElem hl))
theorem own_rowD {w : World} {B g n : Nat} {ys : List UInt8} (hB : B ≤ g) (hn : n = ys.length) (hm : n ≤ maxLen) (h : w.heap[g]? = some (.cells (bv ys).toArray 5 (0, 0))) : Own w B (.slice (some ⟨g, 0, none⟩) n n) ys := by
  subst hn
  exact ⟨by simp [bv_length], .inr ⟨g, _, _, rfl, hB, h, Nat.le_refl _, hm, by simp [bv_length], by simp [← bv_length]⟩⟩
theorem rangeAt_grown {w w' : World} {row : Option Nat} {b o : Nat} {cs : List Value} (h : w.rangeAt b o cs) (hg : w.grownBy w' row) (hne : some b ≠ row) : w'.rangeAt b o cs := fun j v hv => hg.cell (h j v hv) hne
set_option maxRecDepth 20000 in
set_option maxHeartbeats 800000 in
theorem image_r (p g : Nat) (S : List Sec) (w : World) (h : SecAt w p g S) :
    Calls Try.prog 14 #[.pointer (some ⟨p, 0, none⟩)] w fun e w' => e = .returned (.slice (some ⟨w.heap.size, 0, none⟩) (img S).length (img S).length) ∧ w'.heap[w.heap.size]? = some (.cells (bv (img S)).toArray 5 (0, 0)) ∧ Below w.heap.size w w' := by
  obtain ⟨hok, h1, h2, ⟨cap, hp, hc1, hc2⟩, hr⟩ := h
  obtain ⟨M, hM⟩ : ∃ M : Nat, M = S.length * 129 := ⟨_, rfl⟩
  have hMw : IntKind.i64.wrap ((S.length : Int) * 129) = (M : Int) := by rw [IntKind.wrap_i64]; omega
  have hMb : M ≤ 8454144 := by omega
  have hmk := make_bytes M (by omega)
  obtain ⟨Z, hZ⟩ : ∃ Z : Array Value, Z = (List.replicate M (Value.int .u8 0)).toArray := ⟨_, rfl⟩
  rw [← hZ] at hmk
  have HZ : Hid (Z = (bv (imgP S 0)).toArray) := by unfold Hid; rw [hZ, imgP_none, hM]
  have HM : Hid (M = S.length * 129) := hM
  have HR : Hid _ := hr
  have hpl : p < w.heap.size := World.block_lt_of_cell? w _ hp
  have hcn : (0 : Int) < (S.length : Int) := by omega
  have hp2 : (w.alloc (.cells Z 5)).cell? ⟨p, 0, none⟩ = some (.slice (some ⟨g, 0, none⟩) S.length cap) := ((al (Below.refl _ w) (.cells Z 5)).cell (p := ⟨p, 0, none⟩) hpl).trans hp
  clear hM hZ hr
  go_enter Try.func14, Try.ntmps14
  go_wp2_with (first | (go_at_call 17; refine (sectors_t p _ S.length cap _ (by first | exact hp | exact hp2)).mono ?_; rintro e w1 ⟨rfl, hq⟩; have hq := hq.symm; subst hq))
  go_loopw [11] (fun i wr => ∃ k : Nat, k ≤ S.length ∧ i = .int .i64 k ∧ wr.heap[w.heap.size]? = some (.cells (bv (imgP S k)).toArray 5 (0, 0)) ∧ Below w.heap.size w wr) (fun i _ => S.length - (intOf i).toNat)
  case atStart => exact ⟨0, Nat.zero_le _, rfl, by rw [← HZ.out]; exact heap_alloc_new w _, al (Below.refl _ _) _⟩
  case round =>
    obtain ⟨k, hk, rfl, hrow, hbk⟩ := hrel
    by_cases hlt : k < S.length
    · have hki : (k : Int) < (S.length : Int) := by omega
      have hk0 : (0 : Int) ≤ (k : Int) := by omega
      obtain ⟨Y, hY⟩ : ∃ Y : List Value, Y = S[k].cells := ⟨_, rfl⟩
      have hr1 : wr.rangeAt g (k * 129) Y := by rw [hY]; exact rangeAt_below (HR.out k hlt) hbk
      have hgl : g < w.heap.size := range_lt (HR.out k hlt) (by rw [Sec.cells_len (hok _ (List.getElem_mem hlt))]; decide)
      have hp3 : ∀ u, wr.grownBy u (some w.heap.size) → u.cell? ⟨p, 0, none⟩ = some (.slice (some ⟨g, 0, none⟩) S.length cap) := fun u hu => hu.cell ((hbk.cell (p := ⟨p, 0, none⟩) hpl).trans hp) (by simp; omega)
      have HYl : Hid (Y.length = 129) := by unfold Hid; rw [hY]; exact Sec.cells_len (hok _ (List.getElem_mem hlt))
      have hl61 : ∀ u, wr.grownBy u (some w.heap.size) → (Instr.loadAt 63 (.pointer (some ⟨g, k * 129, none⟩))).run Try.prog u = .ok (.agg Y.toArray) u := fun u hu =>
        run_loadAt_mid u g _ _ Y _ (rangeAt_grown hr1 hu (by simp; omega)) Try.underlying63 rfl (by rw [(zero_of_info info_sect).2, HYl.out])
      have hlen : (bv (imgP S k)).length = M := by rw [bv_length, imgP_len hok k hk, HM.out]
      have hM1 : k * 129 + 129 ≤ M := by
        have : (k + 1) * 129 ≤ S.length * 129 := Nat.mul_le_mul_right _ hlt
        have := HM.out
        omega
      have HLY : Hid (∀ u, wr.grownBy u none → Calls Try.prog 26 #[.agg Y.toArray, .slice (some ⟨w.heap.size, k * 129, none⟩) 129 129] u fun e w' => e = .returned (.tuple #[]) ∧ w'.heap[w.heap.size]? = some (.cells (bv (imgP S (k + 1))).toArray 5 (0, 0)) ∧ u.grownBy w' (some w.heap.size)) := by
        intro u hu
        rw [hY, ← imgP_step hok k hlt]
        exact lay_t S[k].text S[k].torn w.heap.size (k * 129) (bv (imgP S k)) u (hok _ (List.getElem_mem hlt)) ((hu.block _ (Array.getElem?_eq_some_iff.1 hrow).1 (by simp)).trans hrow) (by rw [hlen]; exact hM1) (imgP_zero hok k hlt)
      have HM1 : Hid _ := hM1
      clear hY hlen hM1
      go_wp2_with fail
      refine wp_region_noPanic ?_
      refine wp_region_held_drew (S := (fun u => wr.grownBy u (some w.heap.size))) (by kernel_rfl) (by with_reducible first | assumption | exact gr_drw _) (fun hHeld => ?_)
      refine take_at (i := 0) 14 (v := ?_) rfl rfl (by kernel_rfl) (by kernel_rfl) (by kernel_rfl) (fun _ _ _ h => h) (by rfl) ?_ hHeld ?_
      rotate_left
      · (intro w hSw; (try dsimp only at hSw); go_simp; try with_reducible rfl)
      simp only [Act.put, List.setIfInBounds_toArray, List.set_cons_zero, List.set_cons_succ]
      refine take_at (i := 1) 15 (v := ?_) rfl rfl (by kernel_rfl) (by kernel_rfl) (by kernel_rfl) (fun _ _ _ h => h) (by rfl) ?_ hHeld ?_
      rotate_left
      · (intro w hSw; (try dsimp only at hSw); go_simp; try with_reducible rfl)
      simp only [Act.put, List.setIfInBounds_toArray, List.set_cons_zero, List.set_cons_succ]
      refine take_at (i := 2) 16 (v := ?_) rfl rfl (by kernel_rfl) (by kernel_rfl) (by kernel_rfl) (fun _ _ _ h => h) (by rfl) ?_ hHeld ?_
      rotate_left
      · (intro w hSw; (try dsimp only at hSw); go_simp; try with_reducible rfl)
      simp only [Act.put, List.setIfInBounds_toArray, List.set_cons_zero, List.set_cons_succ]
      refine take_at (i := 3) 17 (v := ?_) rfl rfl (by kernel_rfl) (by kernel_rfl) (by kernel_rfl) (fun _ _ _ h => h) (by rfl) ?_ hHeld ?_
      rotate_left
      · (intro w hSw; (try dsimp only at hSw); go_simp; try with_reducible rfl)
      simp only [Act.put, List.setIfInBounds_toArray, List.set_cons_zero, List.set_cons_succ]
      refine take_at (i := 4) 18 (v := ?_) rfl rfl (by kernel_rfl) (by kernel_rfl) (by kernel_rfl) (fun _ _ _ h => h) (by rfl) ?_ hHeld ?_
      rotate_left
      · (intro w hSw; (try dsimp only at hSw); go_simp; try with_reducible rfl)
      simp only [Act.put, List.setIfInBounds_toArray, List.set_cons_zero, List.set_cons_succ]
      refine take_at (i := 5) 19 (v := ?_) rfl rfl (by kernel_rfl) (by kernel_rfl) (by kernel_rfl) (fun _ _ _ h => h) (by rfl) ?_ hHeld ?_
      rotate_left
      · (intro w hSw; (try dsimp only at hSw); go_simp; try with_reducible rfl)
      simp only [Act.put, List.setIfInBounds_toArray, List.set_cons_zero, List.set_cons_succ]
      refine take_at (i := 6) 20 (v := .agg Y.toArray) rfl rfl (by kernel_rfl) (by kernel_rfl) (by kernel_rfl) (fun _ _ _ h => h) (by rfl) ?_ hHeld ?_
      · (intro w hSw; refine exec_load (by rfl) ?_; exact hl61 w hSw)
      simp only [Act.put, List.setIfInBounds_toArray, List.set_cons_zero, List.set_cons_succ]
      refine take_at (i := 7) 21 (v := ?_) rfl rfl (by kernel_rfl) (by kernel_rfl) (by kernel_rfl) (fun _ _ _ h => h) (by rfl) ?_ hHeld ?_
      rotate_left
      · (intro w hSw; (try dsimp only at hSw); go_simp; try with_reducible rfl)
      simp only [Act.put, List.setIfInBounds_toArray, List.set_cons_zero, List.set_cons_succ]
      refine take_at (i := 8) 22 (v := ?_) rfl rfl (by kernel_rfl) (by kernel_rfl) (by kernel_rfl) (fun _ _ _ h => h) (by rfl) ?_ hHeld ?_
      rotate_left
      · (intro w hSw; (try dsimp only at hSw); go_simp; try with_reducible rfl)
      simp only [Act.put, List.setIfInBounds_toArray, List.set_cons_zero, List.set_cons_succ]
      refine run_at (i := 9) rfl (by kernel_rfl) (by rfl) (fun K hK => ?_)
      simp only [List.getElem_toArray, List.getElem_cons_zero, List.getElem_cons_succ]
      go_simp
      first | (go_at_call 27; refine (row_t _ 0 M M k _ HM1.out (Nat.le_refl _) (by omega)).mono ?_; rintro e w1 ⟨rfl, hq⟩; have hq := hq.symm; subst hq; rw [Nat.zero_add]) | (go_at_call 26; refine (HLY.out _ (gr_drw _)).mono ?_; rintro e w2 ⟨rfl, hrow2, hg2⟩; have hS2 : wr.grownBy w2 (some w.heap.size) := (gr_drw _).trans' hg2)
      go_wp2_with fail
      refine hK.out _ _ (by with_reducible first | assumption | exact gr_drw _) ?_
      clear hK K
      intro hHeld2
      clear hHeld
      have hHeld := hHeld2
      clear hHeld2
      try simp only [Act.put, List.setIfInBounds_toArray, List.set_cons_zero, List.set_cons_succ]
      refine run_at (i := 10) rfl (by kernel_rfl) (by rfl) (fun K hK => ?_)
      simp only [List.getElem_toArray, List.getElem_cons_zero, List.getElem_cons_succ]
      go_simp
      first | (go_at_call 27; refine (row_t _ 0 M M k _ HM1.out (Nat.le_refl _) (by omega)).mono ?_; rintro e w1 ⟨rfl, hq⟩; have hq := hq.symm; subst hq; rw [Nat.zero_add]) | (go_at_call 26; refine (HLY.out _ (gr_drw _)).mono ?_; rintro e w2 ⟨rfl, hrow2, hg2⟩; have hS2 : wr.grownBy w2 (some w.heap.size) := (gr_drw _).trans' hg2)
      go_wp2_with fail
      refine hK.out _ _ (by with_reducible first | assumption | exact gr_drw _) ?_
      clear hK K
      intro hHeld2
      clear hHeld
      have hHeld := hHeld2
      clear hHeld2
      try simp only [Act.put, List.setIfInBounds_toArray, List.set_cons_zero, List.set_cons_succ]
      refine wpAnyH_done (by kernel_rfl) ?_ _
      refine NoPanic.normal ?_
      go_wp2
      go_roundw
      case rel => exact ⟨k + 1, by omega, by go_num, hrow2, hbk.grown (row := some w.heap.size) hS2 hbk.size (fun j hj => by cases hj; exact Nat.le_refl _)⟩
      case measure => simp [intOf]; omega
    · obtain rfl : k = S.length := by omega
      rw [imgP_all] at hrow
      go_wp2
      go_ret
      have hln : (img S).length = M := by rw [img_len hok]; exact HM.out.symm
      rw [hln]
      exact ⟨rfl, hrow, hbk⟩
theorem image_t (p g : Nat) (S : List Sec) (w : World) (h : SecAt w p g S) :
    Calls Try.prog 14 #[.pointer (some ⟨p, 0, none⟩)] w fun e w' => ∃ v, e = .returned v ∧ Own w' w.heap.size v (img S) ∧ Below w.heap.size w w' := by
  refine (image_r p g S w h).mono ?_
  rintro e w' ⟨rfl, h1, h2⟩
  refine ⟨_, rfl, own_rowD (Nat.le_refl _) rfl ?_ h1, h2⟩
  rw [img_len h.ok]
  have := h.most
  simp only [maxLen]
  omega
end Go.Proofs.Ytekfolppahnpoaa
namespace Go.Proofs.Ytekfolppahnpoaa
set_option linter.unusedVariables false
set_option linter.unusedSimpArgs false
open Go.RowKit
theorem newW_cell (w : World) (n : Nat) : (newW w n).cell? ⟨w.heap.size + 2, 0, none⟩ = some (.slice (some ⟨w.heap.size, 0, none⟩) n n) := by
  have h : (newW w n).heap[w.heap.size + 2]? = some (.cells #[.slice (some ⟨w.heap.size, 0, none⟩) n n, .map (some (w.heap.size + 1)), .bool false, .int .i64 (-1)] 50 (0, 0)) := by
    unfold newW
    have := heap_alloc_new ((w.alloc (.cells (madeCells z129 (n * 129)) 63)).alloc (.map #[] 0)) (.cells #[.slice (some ⟨w.heap.size, 0, none⟩) n n, .map (some (w.heap.size + 1)), .bool false, .int .i64 (-1)] 50)
    simpa using this
  rw [cell_of_row _ _ 0 _ _ _ h]
  rfl
theorem newW_below (w : World) (n : Nat) : Below w.heap.size w (newW w n) := by
  unfold newW
  exact (((Below.refl _ _).alloc (Nat.le_refl _) _).alloc (by simp) _).alloc (by simp; omega) _
end Go.Proofs.Ytekfolppahnpoaa
namespace Go.Proofs.Ytekfolppahnpoaa
set_option linter.unusedVariables false
set_option linter.unusedSimpArgs false
open Go.RowKit
def ltext (xs : List UInt8) (i : Nat) : List UInt8 := (xs.drop (i * 129 + 1)).take 128
def lsec (xs : List UInt8) (i : Nat) : Sec := ⟨ltext xs i, xs.getD (i * 129) 0 == 1⟩
def lok (xs : List UInt8) (i : Nat) : Bool := goodRow (xs.getD (i * 129) 0) (ltext xs i)
def lall (xs : List UInt8) (k : Nat) : Bool := (List.range k).all (lok xs)
def lsecs (xs : List UInt8) (k : Nat) : List Sec := (List.range k).map (lsec xs)
/-- what Load makes of bytes -/
def loadS (xs : List UInt8) : Option (List Sec) :=
  if xs.length % 129 = 0 ∧ 1 ≤ xs.length / 129 ∧ xs.length / 129 ≤ 65536 ∧ lall xs (xs.length / 129) = true then some (lsecs xs (xs.length / 129)) else none
theorem lall_succ (xs : List UInt8) (k : Nat) : lall xs (k + 1) = (lall xs k && lok xs k) := by simp [lall, List.range_succ]
theorem lall_le {xs : List UInt8} {k n : Nat} (h : k ≤ n) (hf : lall xs k = false) : lall xs n = false := by
  induction n with
  | zero => obtain rfl : k = 0 := by omega
            exact hf
  | succ n ih =>
    rw [lall_succ]
    by_cases e : k = n + 1
    · subst e; rw [lall_succ] at hf; exact hf
    · rw [ih (by omega)]; rfl
theorem ltext_len (xs : List UInt8) (k : Nat) (h : k * 129 + 129 ≤ xs.length) : (ltext xs k).length = 128 := by
  simp [ltext]; omega
theorem lsec_ok (xs : List UInt8) (k : Nat) (h : k * 129 + 129 ≤ xs.length) : (lsec xs k).ok := ltext_len xs k h
theorem lsecs_ok (xs : List UInt8) (k : Nat) (h : k * 129 ≤ xs.length) : SOk (lsecs xs k) := by
  intro s hs
  obtain ⟨i, hi, rfl⟩ := List.mem_map.1 hs
  have hi' : i < k := by simpa using hi
  have : (i + 1) * 129 ≤ k * 129 := Nat.mul_le_mul_right _ hi'
  exact lsec_ok xs i (by omega)
/-- sectors in the making -/
def lmk (xs : List UInt8) (n k : Nat) : List Sec := lsecs xs k ++ List.replicate (n - k) Sec.zero
theorem lmk_len (xs : List UInt8) (n k : Nat) (h : k ≤ n) : (lmk xs n k).length = n := by simp [lmk, lsecs]; omega
theorem lmk_ok (xs : List UInt8) (n k : Nat) (h : k * 129 ≤ xs.length) : SOk (lmk xs n k) := by
  intro s hs
  rcases List.mem_append.1 hs with h1 | h1
  · exact lsecs_ok xs k h s h1
  · exact SOk.rep _ s h1
theorem lmk_set (xs : List UInt8) (n k : Nat) (h : k < n) : (lmk xs n k).set k (lsec xs k) = lmk xs n (k + 1) := by
  unfold lmk
  have hl : (lsecs xs k).length = k := by simp [lsecs]
  rw [List.set_append_right _ _ (by omega), hl, Nat.sub_self, show n - k = (n - (k + 1)) + 1 from by omega, List.replicate_succ, List.set_cons_zero]
  simp [lsecs, List.range_succ]
theorem lmk_all (xs : List UInt8) (n : Nat) : lmk xs n n = lsecs xs n := by simp [lmk]
theorem lmk_none (xs : List UInt8) (n : Nat) : lmk xs n 0 = List.replicate n Sec.zero := by simp [lmk, lsecs]
theorem Rd.sub {w : World} {b o : Nat} {xs : List UInt8} (h : Rd w (some ⟨b, o, none⟩) xs) (i n : Nat) : Rd w (some ⟨b, o + i, none⟩) ((xs.drop i).take n) := by
  intro hp
  obtain ⟨b', o', e, hc⟩ := h (by simp at hp; omega)
  cases e
  refine ⟨_, _, rfl, fun j hj => ?_⟩
  have hj' : j < n ∧ i + j < xs.length := by simp at hj; omega
  rw [Nat.add_assoc, hc (i + j) hj'.2]
  simp
theorem row_cons (xs : List UInt8) (k : Nat) (h : k * 129 + 129 ≤ xs.length) : (xs.drop (k * 129)).take 129 = xs.getD (k * 129) 0 :: ltext xs k := by
  rw [List.drop_eq_getElem_cons (by omega), List.take_succ_cons, List.getD_eq_getElem?_getD, List.getElem?_eq_getElem (by omega)]
  rfl
/-- a disk that was just made, its sectors S -/
structure NewAt (w : World) (p g m : Nat) (S : List Sec) : Prop where
  ok : SOk S
  one : 1 ≤ S.length
  most : S.length ≤ 65536
  hp : w.heap[p]? = some (.cells #[.slice (some ⟨g, 0, none⟩) S.length S.length, .map (some m), .bool false, .int .i64 (-1)] 50 (0, 0))
  hg : w.heap[g]? = some (.cells (secs S).toArray 63 (0, 0))
  hm : w.heap[m]? = some (.map #[] 0)
theorem NewAt.secAt {w : World} {p g m : Nat} {S : List Sec} (h : NewAt w p g m S) : SecAt w p g S :=
  ⟨h.ok, h.one, h.most, ⟨S.length, by rw [cell_of_row _ _ 0 _ _ _ h.hp]; rfl, Nat.le_refl _, h.most⟩, fun k hk => secs_range h.ok h.hg k hk⟩
theorem NewAt.below {w w' : World} {p g m : Nat} {S : List Sec} (h : NewAt w p g m S) (hb : Below w.heap.size w w') : NewAt w' p g m S :=
  ⟨h.ok, h.one, h.most, (hb.block _ (Array.getElem?_eq_some_iff.1 h.hp).1).trans h.hp, (hb.block _ (Array.getElem?_eq_some_iff.1 h.hg).1).trans h.hg, (hb.block _ (Array.getElem?_eq_some_iff.1 h.hm).1).trans h.hm⟩
theorem NewAt.set {w : World} {p g m : Nat} {S : List Sec} (h : NewAt w p g m S) (k : Nat) (hk : k < S.length) (y : Sec) (hy : y.ok) (hpg : p ≠ g) (hmg : m ≠ g) : NewAt (w.drew.setCells g (k * 129) y.cells) p g m (S.set k y) := by
  have hl : (S.set k y).length = S.length := by simp
  refine ⟨h.ok.set k y hy, by rw [hl]; exact h.one, by rw [hl]; exact h.most, ?_, ?_, ?_⟩
  · rw [heap_setCells_far g _ _ _ p hpg, hl]; exact h.hp
  · have h1 : k * 129 + y.cells.length ≤ (secs S).length := by
      rw [secs_len h.ok, Sec.cells_len hy]
      have : (k + 1) * 129 ≤ S.length * 129 := Nat.mul_le_mul_right _ hk
      omega
    rw [← secs_set h.ok k hk y hy]
    exact heap_setCells g _ y.cells (k * 129) (secs S) w.drew h.hg h1
  · rw [heap_setCells_far g _ _ _ m hmg]; exact h.hm
theorem newW_at (w : World) (n : Nat) (h1 : 1 ≤ n) (h2 : n ≤ 65536) : NewAt (newW w n) (w.heap.size + 2) w.heap.size (w.heap.size + 1) (List.replicate n Sec.zero) := by
  have e1 : (newW w n).heap[w.heap.size + 2]? = some (.cells #[.slice (some ⟨w.heap.size, 0, none⟩) n n, .map (some (w.heap.size + 1)), .bool false, .int .i64 (-1)] 50 (0, 0)) := by
    unfold newW
    have := heap_alloc_new ((w.alloc (.cells (madeCells z129 (n * 129)) 63)).alloc (.map #[] 0)) (.cells #[.slice (some ⟨w.heap.size, 0, none⟩) n n, .map (some (w.heap.size + 1)), .bool false, .int .i64 (-1)] 50)
    simpa using this
  refine ⟨SOk.rep n, by simpa using h1, by simpa using h2, by simpa using e1, ?_, ?_⟩
  · rw [← made_secs]
    unfold newW
    rw [heap_alloc_old (h := by simp; omega), heap_alloc_old (h := by simp)]
    exact heap_alloc_new w _
  · unfold newW
    rw [heap_alloc_old (h := by simp)]
    have := heap_alloc_new (w.alloc (.cells (madeCells z129 (n * 129)) 63)) (.map #[] 0)
    simpa using this
def LoadOut (w : World) (e : Ending) (w' : World) : Option (List Sec) → Prop
  | none => e = .returned (.tuple #[.pointer none, .int .i64 1]) ∧ Below w.heap.size w w'
  | some S => e = .returned (.tuple #[.pointer (some ⟨w.heap.size + 2, 0, none⟩), .int .i64 0]) ∧ NewAt w' (w.heap.size + 2) w.heap.size (w.heap.size + 1) S ∧ Below w.heap.size w w'
theorem tdiv129 (n : Nat) : ((n : Int).tdiv 129) = ((n / 129 : Nat) : Int) := by rw [Int.tdiv_eq_ediv_of_nonneg (by omega)]; omega
theorem tmod129 (n : Nat) : ((n : Int).tmod 129) = ((n % 129 : Nat) : Int) := by rw [Int.tmod_eq_emod_of_nonneg (by omega)]; omega
end Go.Proofs.Ytekfolppahnpoaa
