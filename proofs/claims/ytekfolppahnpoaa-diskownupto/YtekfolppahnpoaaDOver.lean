import Derived.Test.YtekfolppahnpoaaDUse
import Derived.Test.YtekfolppahnpoaaDCrashW
import Derived.Test.YtekfolppahnpoaaDImM
namespace Go.Proofs.Ytekfolppahnpoaa
set_option linter.unusedVariables false
set_option linter.unusedSimpArgs false
open Go.RowKit Go.Maps
/-- the first k are written over -/
def mix (c : UInt8) (xs : List UInt8) (k : Nat) : List UInt8 := List.replicate k c ++ xs.drop k
theorem mix_len (c : UInt8) (xs : List UInt8) (k : Nat) (h : k ≤ xs.length) : (mix c xs k).length = xs.length := by simp [mix]; omega
theorem mix_step (c : UInt8) (xs : List UInt8) (k : Nat) (h : k < xs.length) : (mix c xs k).set k c = mix c xs (k + 1) := by
  unfold mix
  rw [List.set_append, if_neg (by simp), List.length_replicate, Nat.sub_self, List.drop_eq_getElem_cons h, List.set_cons_zero, List.replicate_succ']
  simp
theorem mix_all (c : UInt8) (xs : List UInt8) (n : Nat) (h : xs.length = n) : mix c xs n = List.replicate n c := by simp [mix, ← h]
theorem mix_none (c : UInt8) (xs : List UInt8) : mix c xs 0 = xs := by simp [mix]
theorem mix_img {T : List Sec} (h : SOk T) (h1 : 1 ≤ T.length) : mix 0 (img T) 129 = img (T.set 0 Sec.zero) := by
  match T, h, h1 with
  | s :: T', h, _ =>
    have hr := Sec.row_len (h s (by simp))
    simp only [img, List.flatMap_cons, List.set_cons_zero, mix]
    rw [List.drop_append_of_le_length (by omega), ← hr, List.drop_length, List.nil_append, hr]
    rfl
theorem set_byte {w : World} {B : Nat} {xs : List UInt8} (h : w.heap[B]? = some (.cells (bv xs).toArray 5 (0, 0))) (k : Nat) (c : UInt8) :
    (w.setCell ⟨B, k, none⟩ (.int .u8 (c.toNat : Int))).heap[B]? = some (.cells (bv (xs.set k c)).toArray 5 (0, 0)) := by
  rw [heap_setCell_same w B k _ _ _ h, List.setIfInBounds_toArray]
  unfold bv
  rw [List.map_set]
theorem set_chg (w : World) (B k : Nat) (v : Value) : Chg (fun b => b = B) w (w.setCell ⟨B, k, none⟩ v) := Chg.of_grown (gset1 w B k v) (fun b hb => by cases hb; rfl)
theorem byte_at {w : World} {B : Nat} {xs : List UInt8} (h : w.heap[B]? = some (.cells (bv xs).toArray 5 (0, 0))) (k : Nat) (hk : k < xs.length) : ∃ u, w.cell? ⟨B, k, none⟩ = some u := by
  rw [cell_of_row _ _ k _ _ _ h, List.getElem?_toArray, List.getElem?_eq_getElem (by rw [bv_length]; exact hk)]
  exact ⟨_, rfl⟩
theorem DK.over {w w' : World} {p g m : Nat} {S : List Sec} {C : Nat → List (List UInt8)} {V : Nat → Value} {off : Bool} {fuse : Int} {n : Nat} (h : DK w p g m S C V off fuse n) {B : Nat} {cs : Array Value} (hB : w.heap[B]? = some (.cells cs 5 (0, 0))) (hc : Chg (fun b => b = B) w w') : DK w' p g m S C V off fuse n :=
  h.kept hc (fun b hb e => by subst e; exact h.not5 hb hB)
theorem Rd.over {w w' : World} {ao : Option Addr} {xs : List UInt8} {B : Nat} (h : Rd w ao xs) (hc : Chg (fun b => b = B) w w') (hne : ∀ a, ao = some a → a.block ≠ B) : Rd w' ao xs := h.chg hc hne
theorem u8_of {n : Int} (h : (Lit.int .u8 n).wf = true) : ∃ m : UInt8, n = (m.toNat : Int) := by
  simp [Lit.wf, IntKind.min, IntKind.max, IntKind.signed, IntKind.bits] at h
  refine ⟨UInt8.ofNat n.toNat, ?_⟩
  rw [UInt8.toNat_ofNat']
  omega
/-- two sectors, one behind the other, were written to -/
theorem dirty_two (N i : Nat) (hi : i + 1 < N) (C : Nat → List (List UInt8)) (hC : ∀ k, C k ≠ [] ↔ k = i ∨ k = i + 1) : dirtyL N C = [(i : Int), ((i + 1 : Nat) : Int)] := by
  refine sorted_ext _ _ (dirtyL_strict N C) (by simp; omega) (fun z => ?_)
  simp only [dirtyL, List.mem_map, dirtyN_mem, hC, List.mem_cons, List.not_mem_nil, or_false]
  constructor
  · rintro ⟨k, ⟨-, rfl | rfl⟩, rfl⟩
    · exact .inl rfl
    · exact .inr rfl
  · rintro (rfl | rfl)
    · exact ⟨i, ⟨by omega, .inl rfl⟩, rfl⟩
    · exact ⟨i + 1, ⟨hi, .inr rfl⟩, rfl⟩
theorem crashed_at {S : List Sec} {C : Nat → List (List UInt8)} {chs : List Int} {k : Nat} (hk : k < S.length) (hc : C k ≠ []) : (crashed S C chs)[k]'(by rw [crashed_len]; exact hk) = afterS S[k] (told S.length C chs k) (C k) := by
  simp only [crashed, List.getElem_mapIdx, if_neg hc]
/-- a read where nothing is in the cache -/
theorem clean_read {w : World} {p g m : Nat} {S : List Sec} {fuse : Int} {n : Nat} (h : DK w p g m S (fun _ => []) (fun _ => nilS) false fuse n) (i : Nat) (hi : i < S.length) :
    Calls Try.prog 11 #[.pointer (some ⟨p, 0, none⟩), .int .i64 (i : Int)] w fun e w' => ∃ v, e = .returned (.tuple #[v, .int .i64 (readE S[i])]) ∧ Own w' w.heap.size v (readB S[i]) ∧ Below w.heap.size w w' := by
  obtain ⟨a, c, -, hL⟩ := h.looks i hi
  have h9 := read_t p g m i S a c [] w h.secAt hi (by rw [cell_of_row _ _ 1 _ _ _ h.hp]; rfl) (by rw [cell_of_row _ _ 2 _ _ _ h.hp]; rfl) hL
  rw [presS_none] at h9
  exact h9
theorem ints_row {w : World} {B : Nat} {xs : List Int} (h : w.heap[B]? = some (.cells (xs.map (Value.int .i64)).toArray 3 (0, 0))) : Ints w (some ⟨B, 0, none⟩) xs := fun j hj => ⟨B, 0, rfl, by
  rw [Nat.zero_add, cell_of_row _ _ j _ _ _ h, List.getElem?_toArray, List.getElem?_map, List.getElem?_eq_getElem hj]
  rfl⟩
/-- what a crash makes of two sectors that were written to once -/
theorem crash_two {S : List Sec} {C : Nat → List (List UInt8)} {i E : Nat} {F Z : List UInt8} (hi : i + 1 < S.length) (hz : ∀ k (h : k < S.length), S[k] = Sec.zero) (hC : ∀ k, C k ≠ [] ↔ k = i ∨ k = i + 1) (h1 : C i = [F]) (h2 : C (i + 1) = [Z]) (hE : E ≤ 1) :
    (crashed S C [1, (E : Int)])[i]'(by rw [crashed_len]; omega) = ⟨F, false⟩ ∧ (crashed S C [1, (E : Int)])[i + 1]'(by rw [crashed_len]; omega) = ⟨if E = 1 then Z else List.replicate 128 0, false⟩ := by
  have hd := dirty_two S.length i hi C hC
  have t1 : told S.length C [1, (E : Int)] i = 1 := by
    unfold told posN
    rw [hd]
    simp [List.countP_cons, List.countP_nil]
    rw [if_neg (show ¬ ((i : Int) + 1 < (i : Int)) by omega)]
    rfl
  have t2 : told S.length C [1, (E : Int)] (i + 1) = E := by
    unfold told posN
    rw [hd]
    simp [List.countP_cons, List.countP_nil]
    rw [if_pos (show (i : Int) < (i : Int) + 1 by omega)]
    rfl
  constructor
  · rw [crashed_at (by omega) ((hC i).2 (.inl rfl)), t1, h1]
    simp [afterS]
  · rw [crashed_at hi ((hC (i + 1)).2 (.inr rfl)), t2, h2, hz _ hi]
    rcases Nat.le_one_iff_eq_zero_or_eq_one.1 hE with rfl | rfl
    · simp [afterS, Sec.zero]
    · simp [afterS]
end Go.Proofs.Ytekfolppahnpoaa
