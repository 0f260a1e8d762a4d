import Derived.Test.YtekfolppahnpoaaDRead
namespace Go.Proofs.Ytekfolppahnpoaa
set_option linter.unusedVariables false
set_option linter.unusedSimpArgs false
open Go.RowKit
/-- may the operation be done? the answer, and power and fuse behind it -/
def begE (off : Bool) (fuse : Int) : Int := if fuse = 0 then 5 else if off then 5 else 0
def begO (off : Bool) (fuse : Int) : Bool := if fuse = 0 then true else off
def begF (off : Bool) (fuse : Int) : Int := if fuse = 0 then -1 else if off then fuse else if 0 < fuse then fuse - 1 else fuse
theorem heap_set4 {w : World} {p : Nat} {a b c d : Value} {t : TypeId} (h : w.heap[p]? = some (.cells #[a, b, c, d] t (0, 0))) (v : Value) : (w.setCell ⟨p, 2, none⟩ v).heap[p]? = some (.cells #[a, b, v, d] t (0, 0)) ∧ (w.setCell ⟨p, 3, none⟩ v).heap[p]? = some (.cells #[a, b, c, v] t (0, 0)) :=
  ⟨by rw [heap_setCell_same w p 2 _ t v h]; rfl, by rw [heap_setCell_same w p 3 _ t v h]; rfl⟩
set_option maxRecDepth 20000 in
set_option maxHeartbeats 400000 in
theorem begin_t (p : Nat) (a b : Value) (off : Bool) (fuse : Int) (w : World) (h : w.heap[p]? = some (.cells #[a, b, .bool off, .int .i64 fuse] 50 (0, 0))) (hf : fuse ≤ 9223372036854775807) :
    Calls Try.prog 28 #[.pointer (some ⟨p, 0, none⟩)] w fun e w' => e = .returned (.int .i64 (begE off fuse)) ∧ w'.heap[p]? = some (.cells #[a, b, .bool (begO off fuse), .int .i64 (begF off fuse)] 50 (0, 0)) ∧ w.grownBy w' (some p) := by
  have c2 : w.cell? ⟨p, 2, none⟩ = some (.bool off) := by rw [cell_of_row _ _ 2 _ _ _ h]; rfl
  have c3 : w.cell? ⟨p, 3, none⟩ = some (.int .i64 fuse) := by rw [cell_of_row _ _ 3 _ _ _ h]; rfl
  have f2 := frozen_of_row w p 2 _ _ h
  have f3 := frozen_of_row w p 3 _ _ h
  have HH : Hid _ := h
  clear h
  by_cases h0 : fuse = 0
  · subst h0
    go_enter Try.func28, Try.ntmps28
    go_wp2
    go_ret
    refine ⟨rfl, ?_, (gset1 w p 2 _).trans' (gset1 _ p 3 _)⟩
    have h1 := (heap_set4 HH.out (.bool true)).1
    exact (heap_set4 h1 (.int .i64 (-1))).2
  · have hb : (fuse == 0) = false := by simpa using h0
    cases off
    · by_cases h1 : 0 < fuse
      · have e1 : begE false fuse = 0 := by simp [begE, h0]
        have e2 : begO false fuse = false := by simp [begO, h0]
        have e3 : begF false fuse = fuse - 1 := by simp [begF, h0, h1]
        rw [e1, e2, e3]
        clear e1 e2 e3
        go_enter Try.func28, Try.ntmps28
        go_wp2
        go_ret
        exact ⟨rfl, (heap_set4 HH.out _).2, gset1 w p 3 _⟩
      · have e1 : begE false fuse = 0 := by simp [begE, h0]
        have e2 : begO false fuse = false := by simp [begO, h0]
        have e3 : begF false fuse = fuse := by simp [begF, h0, h1]
        rw [e1, e2, e3]
        clear e1 e2 e3
        go_enter Try.func28, Try.ntmps28
        go_wp2
        go_ret
        exact ⟨rfl, HH.out, World.grownBy.refl _ _⟩
    · have e1 : begE true fuse = 5 := by simp [begE]
      have e2 : begO true fuse = true := by simp [begO]
      have e3 : begF true fuse = fuse := by simp [begF, h0]
      rw [e1, e2, e3]
      clear e1 e2 e3
      go_enter Try.func28, Try.ntmps28
      go_wp2
      go_ret
      exact ⟨rfl, HH.out, World.grownBy.refl _ _⟩
end Go.Proofs.Ytekfolppahnpoaa
namespace Go.Proofs.Ytekfolppahnpoaa
set_option linter.unusedVariables false
set_option linter.unusedSimpArgs false
open Go.RowKit
theorem chunks {α : Type} (xs : List α) (k : Nat) : ∀ n, (List.range n).flatMap (fun i => (xs.drop (i * k)).take k) = xs.take (n * k)
  | 0 => by simp
  | n + 1 => by
    rw [List.range_succ, List.flatMap_append, chunks xs k n, Nat.succ_mul, List.take_add]
    simp
/-- may a disk have this sector? -/
def Sec.fit (s : Sec) : Prop := s.text.length = 128 ∧ (s.torn = true → s.text.all (· == 0) = true)
theorem Sec.zero_fit : Sec.zero.fit := ⟨by simp [Sec.zero], by simp [Sec.zero]⟩
theorem Sec.bad_fit : Sec.bad.fit := ⟨by simp [Sec.bad], by simp [Sec.bad]⟩
theorem rmk_is (c : UInt8) (t : List UInt8) (h : goodRow c t = true) : rmk (c == 1) = c := by
  unfold goodRow at h
  unfold rmk
  rcases Bool.or_eq_true_iff.1 h with h0 | h1
  · have e : c = 0 := by simpa using h0
    subst e; rfl
  · have e : c = 1 := by simpa using (Bool.and_eq_true_iff.1 h1).1
    subst e; rfl
theorem lsec_fit (xs : List UInt8) (i : Nat) (h : i * 129 + 129 ≤ xs.length) (hg : lok xs i = true) : (lsec xs i).fit := by
  refine ⟨ltext_len xs i h, fun ht => ?_⟩
  unfold lok goodRow at hg
  have e : xs.getD (i * 129) 0 = 1 := by simpa [lsec] using ht
  rw [e] at hg
  simpa [lsec] using hg
theorem load_img {xs : List UInt8} {S : List Sec} (h : loadS xs = some S) : img S = xs ∧ (∀ s ∈ S, s.fit) ∧ 1 ≤ S.length ∧ S.length ≤ 65536 ∧ xs.length = S.length * 129 := by
  unfold loadS at h
  split at h
  · rename_i hc
    obtain ⟨h1, h2, h3, h4⟩ := hc
    cases h
    have hl : xs.length = xs.length / 129 * 129 := by omega
    have hin : ∀ i, i < xs.length / 129 → i * 129 + 129 ≤ xs.length ∧ lok xs i = true := by
      intro i hi
      have : (i + 1) * 129 ≤ xs.length / 129 * 129 := Nat.mul_le_mul_right _ hi
      exact ⟨by omega, List.all_eq_true.1 h4 i (by simpa using hi)⟩
    refine ⟨?_, ?_, by simpa [lsecs] using h2, by simpa [lsecs] using h3, by simpa [lsecs] using hl⟩
    · have e1 : img (lsecs xs (xs.length / 129)) = (List.range (xs.length / 129)).flatMap (fun i => (xs.drop (i * 129)).take 129) := by
        unfold img lsecs
        rw [List.flatMap_map]
        rw [List.flatMap_def, List.flatMap_def]
        congr 1
        apply List.map_congr_left
        intro i hi
        have hi' := hin i (by simpa using hi)
        rw [row_cons xs i hi'.1]
        show rmk (xs.getD (i * 129) 0 == 1) :: ltext xs i = _
        rw [rmk_is _ _ hi'.2]
      rw [e1, chunks, ← hl, List.take_length]
    · intro s hs
      obtain ⟨i, hi, rfl⟩ := List.mem_map.1 hs
      have hi' := hin i (by simpa using hi)
      exact lsec_fit xs i hi'.1 hi'.2
  · cases h
theorem img_get {T : List Sec} (h : SOk T) (i j : Nat) (hi : i < T.length) (hj : j < 129) : (img T)[i * 129 + j]? = T[i].row[j]? := flat_at Sec.row 129 T (fun s hs => Sec.row_len (h s hs)) i j hi hj
theorem img_drop {T : List Sec} (h : SOk T) (i : Nat) (hi : i < T.length) : ((img T).drop (i * 129)).take 129 = T[i].row := by
  unfold img
  rw [flat_drop Sec.row 129 T i (fun s hs => Sec.row_len (h s hs)), List.drop_eq_getElem_cons hi, List.flatMap_cons, List.take_left' (Sec.row_len (h _ (List.getElem_mem hi)))]
theorem fit_ok {T : List Sec} (h : ∀ s ∈ T, s.fit) : SOk T := fun s hs => (h s hs).1
theorem rmk_one (t : Bool) : (rmk t == 1) = t := by cases t <;> rfl
theorem img_load {T : List Sec} (h : ∀ s ∈ T, s.fit) (h1 : 1 ≤ T.length) (h2 : T.length ≤ 65536) : loadS (img T) = some T := by
  have hok := fit_ok h
  have hl := img_len hok
  have hd : (img T).length / 129 = T.length := by omega
  have hc : ∀ i (hi : i < T.length), (img T).getD (i * 129) 0 = rmk T[i].torn ∧ ltext (img T) i = T[i].text := by
    intro i hi
    have hm : (i + 1) * 129 ≤ T.length * 129 := Nat.mul_le_mul_right _ hi
    have e := img_drop hok i hi
    rw [row_cons (img T) i (by omega)] at e
    exact ⟨by have := List.cons.inj e; exact this.1, (List.cons.inj e).2⟩
  have hs : lsecs (img T) T.length = T := by
    apply List.ext_getElem
    · simp [lsecs]
    · intro i h3 h4
      simp only [lsecs, List.getElem_map, List.getElem_range, lsec]
      obtain ⟨e1, e2⟩ := hc i h4
      rw [e1, e2, rmk_one]
  unfold loadS
  rw [hd, if_pos, hs]
  refine ⟨by omega, h1, h2, ?_⟩
  unfold lall
  rw [List.all_eq_true]
  intro i hi
  have hi' : i < T.length := by simpa using hi
  obtain ⟨e1, e2⟩ := hc i hi'
  unfold lok goodRow
  rw [e1, e2]
  have hf := (h _ (List.getElem_mem hi')).2
  cases ht : T[i].torn
  · rfl
  · rw [hf ht]; rfl
theorem take_mid {α : Type} (L : List α) (a n : Nat) : L.take a ++ ((L.drop a).take n ++ L.drop (a + n)) = L := by
  rw [← List.drop_drop, List.take_append_drop, List.take_append_drop]
theorem img_set {T : List Sec} (h : SOk T) (k : Nat) (hk : k < T.length) (hz : T[k].text = List.replicate 128 0) : (bv (img T)).set (k * 129) (.int .u8 1) = bv (img (T.set k Sec.bad)) := by
  have h1 := flat_set (fun s : Sec => bv s.row) 129 T (fun s hs => by rw [bv_length]; exact Sec.row_len (h s hs)) k hk Sec.bad (by simp [bv, Sec.row, Sec.bad])
  rw [← bv_flat, ← bv_flat] at h1
  rw [← h1]
  have hl : k * 129 < (bv (img T)).length := by
    rw [bv_length, img_len h]
    have : (k + 1) * 129 ≤ T.length * 129 := Nat.mul_le_mul_right _ hk
    omega
  show _ = splice (bv (img T)) (k * 129) (.int .u8 1 :: bv (List.replicate 128 0))
  rw [← splice_step _ _ _ _ hl]
  unfold splice
  apply List.ext_getElem?
  intro j
  have hlen : ((bv (img T)).set (k * 129) (Value.int .u8 1)).length = T.length * 129 := by rw [List.length_set, bv_length, img_len h]
  have hm : (k + 1) * 129 ≤ T.length * 129 := Nat.mul_le_mul_right _ hk
  have e : (((bv (img T)).set (k * 129) (Value.int .u8 1)).drop (k * 129 + 1)).take 128 = bv (List.replicate 128 0) := by
    rw [List.drop_set_of_lt (by omega)]
    have h5 := img_drop h k hk
    rw [row_cons (img T) k (by rw [img_len h]; omega)] at h5
    have h6 := (List.cons.inj h5).2
    unfold ltext at h6
    rw [← hz, ← h6]
    simp [bv, List.map_take, List.map_drop]
  rw [← e]
  congr 1
  rw [List.length_take, List.length_drop, hlen, Nat.min_eq_left (by omega)]
  exact (take_mid _ _ _).symm
end Go.Proofs.Ytekfolppahnpoaa
