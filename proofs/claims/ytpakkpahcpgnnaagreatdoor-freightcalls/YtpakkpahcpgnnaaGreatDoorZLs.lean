import Derived.Test.YtpakkpahcpgnnaaGreatDoorUE
import Derived.Laws.OwnMore
set_option linter.unusedVariables false
set_option linter.unusedSimpArgs false
namespace Go.Proofs.YtpakkpahcpgnnaaGreatDoor
open Go.RowKit
def m4 : List UInt8 := [201, 201, 201, 201]
def rm (xs : List UInt8) (k : Nat) : List UInt8 := xs ++ (List.replicate k 201 ++ List.replicate (4 - k) 0)
theorem rm_len (xs : List UInt8) (k : Nat) (h : k ≤ 4) : (rm xs k).length = xs.length + 4 := by simp [rm]; omega
theorem rm_set (xs : List UInt8) (k : Nat) (h : k < 4) : (rm xs k).set (xs.length + k) 201 = rm xs (k + 1) := by
 unfold rm; rw [List.set_append_right _ _ (by omega), Nat.add_sub_cancel_left]
 congr 1
 match k, h with
 | 0, _ => rfl
 | 1, _ => rfl
 | 2, _ => rfl
 | 3, _ => rfl
theorem rm_all (xs : List UInt8) : rm xs 4 = xs ++ m4 := rfl
theorem made_u8 (n : Nat) : (madeCells (Value.cells (.int .u8 0)) (n * 1)).toList = List.replicate n (.int .u8 0) := by
 apply List.ext_getElem
 · simp [madeCells]
 · intro i h1 h2; simp [madeCells, Value.cells, Nat.mod_one]
theorem splice_zero (xs : List UInt8) : splice (List.replicate (xs.length + 4) (Value.int .u8 0)) 0 (bv xs) = bv (rm xs 0) := by
 unfold splice rm; rw [bv_append]; simp only [List.take_zero, List.nil_append, Nat.zero_add, bv_length, List.drop_replicate]; rw [show xs.length + 4 - xs.length = 4 from by omega]
 rfl
theorem own_row {w : World} {B g n : Nat} {ys : List UInt8} (hB : B ≤ g) (hn : n = ys.length) (hm : n ≤ maxLen) (h : w.heap[g]? = some (.cells (bv ys).toArray 5 (0, 0))) : Own w B (.slice (some ⟨g, 0, none⟩) n n) ys := by
 subst hn; exact ⟨by simp [bv_length], .inr ⟨g, _, _, rfl, hB, h, Nat.le_refl _, hm, by simp [bv_length], by simp [← bv_length]⟩⟩
set_option maxRecDepth 20000 in
set_option maxHeartbeats 800000 in
theorem bytes_own (ao : Option Addr) (cap : Nat) (xs : List UInt8) (w : World) (hx : Rd w ao xs) (hl : xs.length ≤ 140737488351232) :
 Calls Tryz.prog 9 #[.slice ao xs.length cap] w fun e w' => ∃ g, e = .returned (.slice (some ⟨g, 0, none⟩) xs.length (xs.length + 4)) ∧ w.heap.size ≤ g ∧ Own w' w.heap.size (.slice (some ⟨g, 0, none⟩) (xs.length + 4) (xs.length + 4)) (xs ++ m4) ∧ Below w.heap.size w w' := by
 obtain ⟨i0, hi, hz0, hz1, hz2⟩ := info_parts info5; have hsz1 : (Tryz.prog.info? 5).map (·.size) = some 1 := by rw [hi, Option.map_some, hz1]
 have hmk := run_make (P := Tryz.prog) w 22 5 i0 (.int .u8 0) Tryz.underlying22 hi hz0 .i64 .i64 ((xs.length + 4 : Nat) : Int) ((xs.length + 4 : Nat) : Int) (by omega) (Int.le_refl _) (by rw [hz2]; omega) (by omega); rw [hz1, Int.toNat_natCast] at hmk; obtain ⟨Z, hZ⟩ : ∃ Z : List Value, Z.toArray = madeCells (Value.cells (.int .u8 0)) ((xs.length + 4) * 1) := ⟨_, Array.toArray_toList⟩
 have hZ2 : Hid (Z = List.replicate (xs.length + 4) (.int .u8 0)) := by
  unfold Hid; rw [← made_u8, ← hZ]
 rw [← hZ] at hmk; obtain ⟨M, hM⟩ : ∃ M : Nat, M = xs.length + 4 := ⟨_, rfl⟩; rw [← hM] at hmk; have HM : Hid (M = xs.length + 4) := hM; have hMw : IntKind.i64.wrap ((xs.length : Int) + 4) = (M : Int) := by rw [IntKind.wrap_i64]; omega
 have hML : xs.length ≤ M := by omega
 have hMb : M ≤ 140737488355328 := by omega
 obtain ⟨X, hX⟩ : ∃ X : List Value, X = bv xs := ⟨_, rfl⟩; have HX : Hid (X = bv xs) := hX; have HXl : Hid (X.length = xs.length) := by rw [hX]; exact bv_length xs
 have HSP : Hid (splice Z 0 X = bv (rm xs 0)) := by unfold Hid; rw [hX, hZ2.out]; exact splice_zero xs
 have HZl : Hid (Z.length = M) := by unfold Hid; rw [hZ2.out, hM]; simp
 have hpos : 0 < X.length → ∃ ad, ao = some ad ∧ ∀ j v, X[j]? = some v → (w.alloc (.cells Z.toArray 5)).cell? (ad.add j) = some v := by
  intro h0; rw [HXl.out] at h0; obtain ⟨b, o, rfl, hc⟩ := (hx.alloc (.cells Z.toArray 5)) h0; refine ⟨_, rfl, fun j v hj => ?_⟩; rw [hX] at hj
  have hlt : j < xs.length := by
   have := (List.getElem?_eq_some_iff.1 hj).1
   simpa [bv_length] using this
  rw [bv_get xs j hlt] at hj; rw [Go.WideShapes.add_plain, hc j hlt]; exact hj
 have HPos : Hid _ := hpos; have h1 : ∀ v ∈ X, v.oneCell' = true := by rw [hX]; exact bv_one xs
 have H1 : Hid _ := h1; clear hM hX hZ hZ2 hpos h1; go_enter Tryz.func9, Tryz.ntmps9
 go_wp2_with (refine wpList_copy_splice rfl _ _ 22 22 rfl 5 Tryz.underlying22 hsz1 (some ⟨w.heap.size, 0, none⟩) ao M M xs.length cap rfl rfl w.heap.size 0 Z 5 (heap_alloc_new w _) X (by rw [HXl.out]; exact (Nat.min_eq_left hML).symm) (fun h => ⟨rfl, HPos.out h⟩) (by rw [HXl.out, HZl.out]; omega) H1.out w.heap.size w ((bR _ _).alloc (Nat.le_refl _) _) (Nat.le_refl _) ?_; intro w2 hg2 hb2)
 rw [HSP.out] at hg2; have hown : Own w2 w.heap.size (.slice (some ⟨w.heap.size, 0, none⟩) M M) (rm xs 0) := own_row (Nat.le_refl _) (by rw [rm_len _ _ (by omega)]; exact HM.out) (by simp only [maxLen]; omega) hg2.out; go_loopw [4] (fun i wr => ∃ k : Nat, k ≤ 4 ∧ i = .int .i64 (xs.length + k : Nat) ∧ Own wr w.heap.size (.slice (some ⟨w.heap.size, 0, none⟩) M M) (rm xs k) ∧ Below w.heap.size w wr) (fun i _ => xs.length + 4 - (intOf i).toNat)
 case atStart => exact ⟨0, by omega, rfl, hown, hb2⟩
 case round =>
  obtain ⟨k, hk, rfl, hok, hbk⟩ := hrel; clear hown
  by_cases hlt : k < 4
  · have hMm : M = (rm xs k).length := by rw [rm_len _ _ hk]; exact HM.out
    have hok' := hok; rw [hMm] at hok'; have hlt2 : xs.length + k < M := by have := HM.out; omega
    have hcell : ∃ u, wr.cell? ⟨w.heap.size, xs.length + k, none⟩ = some u := ⟨_, by rw [World.ownsRow.cellAt hok' _ (by omega), bv_get _ _ (by omega)]⟩; obtain ⟨u, hcell⟩ := hcell; have hfz := World.ownsRow.frozenAt hok' (xs.length + k); have hst := own_set hok' (xs.length + k) 201 201 rfl; rw [rm_set _ _ hlt, ← hMm] at hst; have HST : Hid _ := hst; clear hMm hok' hst hok; go_wp2; go_roundw
    case rel => exact ⟨k + 1, by omega, by go_num, HST.out.1, hbk.grown HST.out.2 hbk.size (fun j hj => by cases hj; exact Nat.le_refl _)⟩
    case measure => simp [intOf]; omega
  · obtain rfl : k = 4 := by omega
    have hMm := HM.out; rw [← hMm]; have hr := (hok.val); rw [rm_all] at hok; have hc1 : (xs.length : Int) ≤ (M : Int) := by omega
    have hc1a : ¬ M = xs.length := by omega
    clear hMm; go_wp2; go_ret; refine ⟨w.heap.size, by rw [HM.out]; rfl, Nat.le_refl _, ?_, hbk⟩; have h9 := hok; rw [HM.out] at h9; exact h9
theorem bytes_any (ao : Option Addr) (cap : Nat) (xs : List UInt8) (w : World) (hx : Rd w ao xs) (hl : xs.length ≤ 140737488351232) :
 Calls Tryz.prog 9 #[.slice ao xs.length cap] w fun e w' => ∃ g, e = .returned (.slice (some ⟨g, 0, none⟩) xs.length (xs.length + 4)) ∧ w.heap.size ≤ g ∧ Rd w' (some ⟨g, 0, none⟩) (xs ++ m4) ∧ Below w.heap.size w w' := by
 refine (bytes_own ao cap xs w hx hl).mono ?_; rintro e w' ⟨g, he, hg, hok, hb⟩; refine ⟨g, he, hg, ?_, hb⟩; obtain ⟨a, c, hv, -, -, -, hrd, -⟩ := hok.val; simp only [Value.slice.injEq] at hv; rw [hv.1]; exact hrd
open Go.RowKit
theorem m4_at (xs : List UInt8) (k : Nat) (h : k < 4) (h2 : xs.length + k < (xs ++ m4).length) : (xs ++ m4)[xs.length + k] = 201 := by
 rw [List.getElem_append_right (by omega)]; simp only [Nat.add_sub_cancel_left]
 match k, h with
 | 0, _ => rfl
 | 1, _ => rfl
 | 2, _ => rfl
 | 3, _ => rfl
set_option maxRecDepth 20000 in
set_option maxHeartbeats 800000 in
theorem stays_t (g : Nat) (bo : Option Addr) (cap' : Nat) (xs : List UInt8) (w : World) (hy : Rd w (some ⟨g, 0, none⟩) (xs ++ m4)) (hx : Rd w bo xs) (hl : xs.length ≤ 140737488351232) :
 Calls Tryz.prog 11 #[.slice (some ⟨g, 0, none⟩) xs.length (xs.length + 4), .slice bo xs.length cap'] w fun e w' => e = .returned (.bool true) ∧ Below w.heap.size w w' := by
 obtain ⟨M, hM⟩ : ∃ M : Nat, M = xs.length + 4 := ⟨_, rfl⟩; rw [← hM]; have hcs := fun (u : World) (hu : Below w.heap.size w u) => conv_rd' (n := xs.length) (cap := M) (((Rd.take hy xs.length).below hu)) (by simp)
 rw [List.take_left' rfl] at hcs; have hcv := fun (u : World) (hu : Below w.heap.size w u) => conv_rd' (n := xs.length) (cap := cap') (hx.below hu) rfl
 have HM : Hid (M = xs.length + 4) := hM; have hMw : IntKind.i64.wrap ((xs.length : Int) + 4) = (M : Int) := by rw [IntKind.wrap_i64]; omega
 have hML : xs.length ≤ M := by omega
 have hMb : M ≤ 140737488355328 := by omega
 have hc1 : (xs.length : Int) ≤ (M : Int) := by omega
 have hc1a : ¬ M = xs.length := by omega
 clear hM; go_enter Tryz.func11, Tryz.ntmps11
 go_wp2; go_loop [6] (fun i => ∃ k : Nat, k ≤ 4 ∧ i = .int .i64 (xs.length + k : Nat)) (fun i => xs.length + 4 - (intOf i).toNat)
 case atStart => exact ⟨0, by omega, rfl⟩
 case round =>
  obtain ⟨k, hk, rfl⟩ := hrel
  by_cases hlt : k < 4
  · have hlen : (xs ++ m4).length = xs.length + 4 := by simp [m4]
    obtain ⟨b, o, e, hc⟩ := hy (by omega); have hlt2 : xs.length + k < (xs ++ m4).length := by omega
    have hcell := hc (xs.length + k) hlt2; cases e; rw [m4_at xs k hlt hlt2] at hcell; have hlt3 : xs.length + k < M := by have := HM.out; omega
    rw [Nat.zero_add] at hcell; clear hlen hlt2 hc; go_wp2; go_round
    case rel => exact ⟨k + 1, by omega, by go_num⟩
    case measure => simp [intOf]; omega
  · obtain rfl : k = 4 := by omega
    have hMm := HM.out; rw [← hMm]; clear hMm; have hself := hcs w (bR _ _); have hself2 := hcv w (bR _ _); (go_wp2_with fail); refine wp_region_noPanic ?_; refine wp_region_held_drew (S := (fun u => Below w.heap.size w u)) (by kernel_rfl) (by first | exact (bR _ _).drew | assumption) (fun hHeld => ?_); refine tz 0 25 hHeld ?_; simp only [pS]; refine tz 1 26 hHeld ?_; simp only [pS]; refine tz 2 27 hHeld ?_; simp only [pS]; refine tz 3 28 hHeld ?_; simp only [pS]; refine tz 4 29 hHeld ?_; simp only [pS]; refine tz 5 30 hHeld ?_; simp only [pS]; refine tz 6 31 hHeld ?_; simp only [pS]; refine tz 7 32 hHeld ?_; simp only [pS]; refine tz 8 4 hHeld ?_; simp only [pS]; refine wpAnyH_done (by kernel_rfl) ?_ _; refine NoPanic.normal ?_
    all_goals go_wp2
    all_goals go_ret
    all_goals exact ⟨rfl, (by first | exact (bR _ _).drew | assumption)⟩
end Go.Proofs.YtpakkpahcpgnnaaGreatDoor
