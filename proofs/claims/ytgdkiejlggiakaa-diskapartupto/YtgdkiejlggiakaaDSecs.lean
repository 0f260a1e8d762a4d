import Derived.Test.YtgdkiejlggiakaaDLay
namespace Go.Proofs.Ytgdkiejlggiakaa
set_option linter.unusedVariables false
set_option linter.unusedSimpArgs false
open Go.RowKit
/-! rows of parts of one size -/
theorem flat_len {α β : Type} (f : α → List β) (n : Nat) : ∀ (l : List α), (∀ x ∈ l, (f x).length = n) → (l.flatMap f).length = l.length * n
  | [], _ => by simp
  | x :: l, h => by
    rw [List.flatMap_cons, List.length_append, h x (by simp), flat_len f n l (fun y hy => h y (by simp [hy])), List.length_cons, Nat.succ_mul]
    omega
theorem flat_drop {α β : Type} (f : α → List β) (n : Nat) : ∀ (l : List α) (k : Nat), (∀ x ∈ l, (f x).length = n) → (l.flatMap f).drop (k * n) = (l.drop k).flatMap f
  | l, 0, _ => by simp
  | [], k + 1, _ => by simp
  | x :: l, k + 1, h => by
    rw [List.flatMap_cons, List.drop_succ_cons, ← flat_drop f n l k (fun y hy => h y (by simp [hy])), Nat.succ_mul, Nat.add_comm, ← List.drop_drop, List.drop_left' (h x (by simp))]
theorem flat_take {α β : Type} (f : α → List β) (n : Nat) : ∀ (l : List α) (k : Nat), (∀ x ∈ l, (f x).length = n) → (l.flatMap f).take (k * n) = (l.take k).flatMap f
  | l, 0, _ => by simp
  | [], k + 1, _ => by simp
  | x :: l, k + 1, h => by
    rw [List.flatMap_cons, List.take_succ_cons, List.flatMap_cons, ← flat_take f n l k (fun y hy => h y (by simp [hy])), Nat.succ_mul, Nat.add_comm, List.take_append, h x (by simp), Nat.add_sub_cancel_left, List.take_of_length_le (by rw [h x (by simp)]; omega)]
theorem flat_at {α β : Type} (f : α → List β) (n : Nat) (l : List α) (h : ∀ x ∈ l, (f x).length = n) (k j : Nat) (hk : k < l.length) (hj : j < n) : (l.flatMap f)[k * n + j]? = (f l[k])[j]? := by
  rw [← List.getElem?_drop, flat_drop f n l k h, List.drop_eq_getElem_cons hk, List.flatMap_cons, List.getElem?_append_left (by rw [h _ (List.getElem_mem hk)]; exact hj)]
theorem flat_set {α β : Type} (f : α → List β) (n : Nat) (l : List α) (h : ∀ x ∈ l, (f x).length = n) (k : Nat) (hk : k < l.length) (y : α) (hy : (f y).length = n) : splice (l.flatMap f) (k * n) (f y) = (l.set k y).flatMap f := by
  unfold splice
  rw [hy, flat_take f n l k h, show k * n + n = (k + 1) * n from by rw [Nat.succ_mul], flat_drop f n l (k + 1) h, List.set_eq_take_append_cons_drop, if_pos hk, List.flatMap_append, List.flatMap_cons]
/-! sectors -/
structure Sec where
  text : List UInt8
  torn : Bool
def Sec.ok (s : Sec) : Prop := s.text.length = 128
def Sec.cells (s : Sec) : List Value := secV s.text s.torn
def Sec.row (s : Sec) : List UInt8 := rmk s.torn :: s.text
def Sec.zero : Sec := ⟨List.replicate 128 0, false⟩
theorem Sec.zero_ok : Sec.zero.ok := by simp [Sec.zero, Sec.ok]
theorem Sec.cells_len {s : Sec} (h : s.ok) : s.cells.length = 129 := secV_len s.text s.torn h
theorem Sec.row_len {s : Sec} (h : s.ok) : s.row.length = 129 := by simp [Sec.row, show s.text.length = 128 from h]
def secs (S : List Sec) : List Value := S.flatMap Sec.cells
def img (S : List Sec) : List UInt8 := S.flatMap Sec.row
def SOk (S : List Sec) : Prop := ∀ s ∈ S, s.ok
theorem secs_len {S : List Sec} (h : SOk S) : (secs S).length = S.length * 129 := flat_len _ _ S (fun s hs => Sec.cells_len (h s hs))
theorem img_len {S : List Sec} (h : SOk S) : (img S).length = S.length * 129 := flat_len _ _ S (fun s hs => Sec.row_len (h s hs))
theorem bv_flat (S : List Sec) : bv (img S) = S.flatMap fun s => bv s.row := by
  induction S with
  | nil => rfl
  | cons s S ih => simp only [img, List.flatMap_cons] at *; rw [bv_append, ih]
theorem secs_set {S : List Sec} (h : SOk S) (k : Nat) (hk : k < S.length) (y : Sec) (hy : y.ok) : splice (secs S) (k * 129) y.cells = secs (S.set k y) :=
  flat_set _ _ S (fun s hs => Sec.cells_len (h s hs)) k hk y (Sec.cells_len hy)
theorem SOk.set {S : List Sec} (h : SOk S) (k : Nat) (y : Sec) (hy : y.ok) : SOk (S.set k y) := by
  intro s hs
  rcases List.mem_or_eq_of_mem_set hs with h1 | rfl
  · exact h s h1
  · exact hy
theorem SOk.rep (n : Nat) : SOk (List.replicate n Sec.zero) := by
  intro s hs
  rw [List.eq_of_mem_replicate hs]
  exact Sec.zero_ok
/-- the k-th sector of a block of sectors -/
theorem secs_range {w : World} {g : Nat} {S : List Sec} {t : TypeId} {fr : Nat × Nat} (h : SOk S) (hg : w.heap[g]? = some (.cells (secs S).toArray t fr)) (k : Nat) (hk : k < S.length) : w.rangeAt g (k * 129) S[k].cells := by
  intro j v hv
  rw [cell_of_row _ _ _ _ _ _ hg]
  have hj : j < 129 := by rw [← Sec.cells_len (h _ (List.getElem_mem hk))]; exact (List.getElem?_eq_some_iff.1 hv).1
  rw [List.getElem?_toArray]
  exact (flat_at Sec.cells 129 S (fun s hs => Sec.cells_len (h s hs)) k j hk hj).trans hv
theorem secs_there {w : World} {g : Nat} {S : List Sec} {t : TypeId} (h : SOk S) (hg : w.heap[g]? = some (.cells (secs S).toArray t (0, 0))) (k : Nat) (hk : k < S.length) : w.there g (k * 129) 129 := by
  intro j hj
  refine ⟨?_, frozen_of_row _ _ _ _ _ hg⟩
  rw [cell_of_row _ _ _ _ _ _ hg]
  have := secs_len h
  simp only [List.getElem?_toArray]
  rw [List.getElem?_eq_getElem (by rw [this]; have : (k + 1) * 129 ≤ S.length * 129 := Nat.mul_le_mul_right _ hk; omega)]
  rfl
theorem made_secs (n : Nat) : madeCells z129 (n * 129) = (secs (List.replicate n Sec.zero)).toArray := by
  have hz : z129 = Sec.zero.cells.toArray := by
    apply Array.ext'
    simp [z129, Sec.zero, Sec.cells, secV, bv]
  have hl : Sec.zero.cells.length = 129 := Sec.cells_len Sec.zero_ok
  have h2 := secs_len (SOk.rep n)
  rw [List.length_replicate] at h2
  apply Array.ext_getElem?
  intro i
  simp only [List.getElem?_toArray]
  by_cases hi : i < n * 129
  · have hk : i / 129 < n := by rw [Nat.div_lt_iff_lt_mul (by decide)]; exact hi
    have hj : i % 129 < 129 := Nat.mod_lt _ (by decide)
    have e : i = i / 129 * 129 + i % 129 := by omega
    have h1 := flat_at Sec.cells 129 (List.replicate n Sec.zero) (fun s hs => Sec.cells_len (SOk.rep n s hs)) (i / 129) (i % 129) (by simpa using hk) hj
    rw [← e, List.getElem_replicate] at h1
    have h3 : (secs (List.replicate n Sec.zero))[i]? = Sec.zero.cells[i % 129]? := h1
    rw [h3, madeCells, z129_size, Array.getElem?_map, Array.getElem?_range, if_pos hi, hz]
    clear hz h1 h3 h2
    generalize Sec.zero.cells = C at *
    rw [List.getElem?_eq_getElem (by rw [hl]; exact hj), Option.map_some, getElem!_pos _ _ (by rw [List.size_toArray, hl]; exact hj), List.getElem_toArray]
  · have h1 : (madeCells z129 (n * 129)).size = n * 129 := by simp [madeCells]
    rw [Array.getElem?_eq_none (by omega), List.getElem?_eq_none (by omega)]
end Go.Proofs.Ytgdkiejlggiakaa
