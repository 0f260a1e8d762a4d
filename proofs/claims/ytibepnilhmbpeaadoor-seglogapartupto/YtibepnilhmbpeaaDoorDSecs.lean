import Derived.Test.YtibepnilhmbpeaaDoorDNew
import Derived.Test.YtibepnilhmbpeaaDoorClone
import Derived.Test.YtibepnilhmbpeaaDoorRegn
import Derived.Deep.MidRow
import Derived.Deep.WholeRow
import Derived.Laws.CopyOwn
import Derived.OwnWalk
import Derived.ChangeKeysEq
import Derived.Lib.BufferOwn
import Derived.Laws.ResultCell
namespace Go.Proofs.YtibepnilhmbpeaaDoor
set_option linter.unusedVariables false
set_option linter.unusedSimpArgs false
open Go.RowKit
/-- the 128 cells of a text of zeros -/
def z128 : Array Value := Array.replicate 128 (.int .u8 0)
theorem info_text : (Tryd.prog.info? 87).map (fun i => (i.zero, i.size)) = some (some (.agg z128), 128) := by kernel_rfl
theorem info_sect : (Tryd.prog.info? 89).map (fun i => (i.zero, i.size)) = some (some (.agg z129), 129) := by kernel_rfl
theorem splice_whole (X : List Value) (h : X.length = 128) : splice z128.toList 0 X = X := by
  unfold splice
  simp [h, z128]
set_option maxRecDepth 20000 in
set_option maxHeartbeats 800000 in
theorem textOf_t (ao : Option Addr) (cap : Nat) (xs : List UInt8) (w : World) (hx : Rd w ao xs) (hl : xs.length = 128) :
    Calls Tryd.prog 76 #[.slice ao 128 cap] w fun e w' => e = .returned (.agg (bv xs).toArray) ∧ Below w.heap.size w w' := by
  have hz := (zero_of_info info_text).1
  obtain ⟨X, hX⟩ : ∃ X : List Value, X = bv xs := ⟨_, rfl⟩
  rw [← hX]
  have hXl : X.length = 128 := by rw [hX, bv_length, hl]
  have h1 : ∀ v ∈ X, v.oneCell' = true := by rw [hX]; exact bv_one xs
  have HX : Hid (X = bv xs) := hX
  have HXl : Hid (X.length = 128) := hXl
  have H1 : Hid _ := h1
  clear hX hXl h1
  obtain ⟨Z, hZ⟩ : ∃ Z : Array Value, Z = z128 := ⟨_, rfl⟩
  rw [← hZ] at hz
  have HZ : Hid (Z = z128) := hZ
  have HZl : Hid (Z.toList.length = 128) := by unfold Hid; rw [hZ]; simp [z128]
  have HSP : Hid (splice Z.toList 0 X = X) := by unfold Hid; rw [hZ]; exact splice_whole X HXl.out
  have HIt : Hid ((Tryd.prog.info? 87).map (·.size) = some 128) := (zero_of_info info_text).2
  have hsz1 : (Tryd.prog.info? 5).map (·.size) = some 1 := by obtain ⟨i0, hi, hz0, hz1, hz2⟩ := info_parts info5; rw [hi, Option.map_some, hz1]
  have HPos : Hid (∃ ad, ao = some ad ∧ ∀ j v, X[j]? = some v → ((w.alloc (.cells Z 87)).alloc (.cells Z 87)).cell? (ad.add j) = some v) := by
    obtain ⟨b, o, rfl, hc⟩ := ((hx.alloc (.cells Z 87)).alloc (.cells Z 87)) (by omega)
    refine ⟨_, rfl, fun j v hj => ?_⟩
    rw [HX.out] at hj
    have hlt : j < xs.length := by
      have := (List.getElem?_eq_some_iff.1 hj).1
      simpa [bv_length] using this
    rw [bv_get xs j hlt] at hj
    rw [Go.WideShapes.add_plain, hc j hlt]
    exact hj
  clear hZ
  go_enter Tryd.func76, Tryd.ntmps76
  go_wp2_with (first
    | (refine wpList_copy_splice rfl _ _ 27 27 rfl 5 Tryd.underlying27 hsz1 (some ⟨w.heap.size + 1, 0, none⟩) ao 128 128 128 cap rfl rfl (w.heap.size + 1) 0 Z.toList 87 (by rw [Array.toArray_toList]; simpa using heap_alloc_new (w.alloc (.cells Z 87)) (.cells Z 87)) X (by rw [HXl.out]; rfl) (fun _ => ⟨rfl, HPos.out⟩) (by rw [HXl.out, HZl.out]; decide) H1.out (w.heap.size + 1) (w.alloc (.cells Z 87)) (by simpa using (Below.refl _ (w.alloc (.cells Z 87))).alloc (Nat.le_refl _) (.cells Z 87)) (Nat.le_refl _) ?_; intro w2 hg2 hb2; rw [HSP.out] at hg2; have HB2 : Hid (w2.heap[w.heap.size]? = some (.cells Z 87 (0, 0))) := (hb2.block w.heap.size (Nat.lt_succ_self _)).trans (heap_alloc_new w _))
    | (refine wpList_load_row rfl 87 _ rfl (w.heap.size + 1) rfl 87 X.toArray (0, 0) _ hg2.out Tryd.underlying87 rfl (by rw [HIt.out]; simp [HXl.out]) ?_)
    | (refine wpList_store_row rfl 87 _ _ rfl w.heap.size X.toArray rfl rfl 87 Z HB2.out (by rw [HIt.out]; simp [HXl.out]) (by have := HZl.out; simp only [List.size_toArray, HXl.out]; simpa using this) (all_oneCell_toArray H1.out) ?_))
  refine bodyPost_ret (v := .agg X.toArray) (results_cell_row Tryd.results76 _ _ w.heap.size 87 X.toArray (0, 0) _ rfl (setRow_heap _ _ _ _ _ _ HB2.out) Tryd.underlying87 rfl (by rw [HIt.out]; simp [HXl.out])) rfl ⟨rfl, ?_⟩
  exact below_setRow (((Below.refl _ w).alloc (Nat.le_refl _) _).trans (hb2.mono (Nat.le_succ _))) (Nat.le_refl _) _
end Go.Proofs.YtibepnilhmbpeaaDoor
namespace Go.Proofs.YtibepnilhmbpeaaDoor
set_option linter.unusedVariables false
set_option linter.unusedSimpArgs false
open Go.RowKit
theorem splice_step {α : Type} (L : List α) (k : Nat) (v : α) (r : List α) (h : k < L.length) : splice (L.set k v) (k + 1) r = splice L k (v :: r) := by
  unfold splice
  rw [List.take_set, List.drop_set_of_lt (by omega), List.take_succ_eq_append_getElem h]
  rw [List.set_append_right _ _ (by simp; omega)]
  simp only [List.length_take, Nat.min_eq_left (Nat.le_of_lt h), Nat.sub_self, List.set_cons_zero, List.append_assoc, List.cons_append, List.nil_append, List.length_cons]
  rw [show k + 1 + r.length = k + (r.length + 1) from by omega]
theorem fold_set : ∀ (X : List Value) (k : Nat) (Z : Array Value), k + X.length ≤ Z.size → (X.zipIdx k).foldl (fun cs x => cs.setIfInBounds x.2 x.1) Z = (splice Z.toList k X).toArray
  | [], k, Z, h => by simp [splice]
  | v :: r, k, Z, h => by
    rw [List.zipIdx_cons, List.foldl_cons, fold_set r (k + 1) _ (by simp at h ⊢; omega)]
    rw [Array.toList_setIfInBounds, splice_step _ _ _ _ (by simp at h ⊢; omega)]
/-- behind a store of cells in the midst of a row -/
theorem heap_setCells (g : Nat) (t : TypeId) : ∀ (cs : List Value) (o : Nat) (L : List Value) (w : World), w.heap[g]? = some (.cells L.toArray t (0, 0)) → o + cs.length ≤ L.length → (w.setCells g o cs).heap[g]? = some (.cells (splice L o cs).toArray t (0, 0))
  | [], o, L, w, h, _ => by simpa [splice, World.setCells] using h
  | v :: r, o, L, w, h, hl => by
    rw [World.setCells, heap_setCells g t r (o + 1) (L.set o v) _ (by rw [heap_setCell_same w g o _ t v h]; simp) (by simp at hl ⊢; omega), splice_step _ _ _ _ (by simp at hl; omega)]
theorem heap_setCells_far (g : Nat) : ∀ (cs : List Value) (o : Nat) (w : World) (k : Nat), k ≠ g → (w.setCells g o cs).heap[k]? = w.heap[k]?
  | [], _, _, _, _ => rfl
  | v :: r, o, w, k, hk => by
    rw [World.setCells, heap_setCells_far g r (o + 1) _ k hk, heap_setCell_other _ _ _ _ hk]
theorem gset1 (w : World) (g i : Nat) (v : Value) : w.grownBy (w.setCell ⟨g, i, none⟩ v) (some g) :=
  ⟨rfl, rfl, rfl, by simp, fun k _ hne => heap_setCell_other _ _ _ _ (fun e => hne (by rw [e]))⟩
theorem setCells_grown (g : Nat) : ∀ (cs : List Value) (o : Nat) (w : World), w.grownBy (w.setCells g o cs) (some g)
  | [], _, w => World.grownBy.refl _ _
  | v :: r, o, w => by
    rw [World.setCells]
    exact (gset1 w g o v).trans' (setCells_grown g r (o + 1) _)
theorem splice_all {α : Type} (L X : List α) (h : X.length = L.length) : splice L 0 X = X := by
  unfold splice
  simp [h]
theorem built_at (parts : List (Nat × Value)) : Tryd.prog.built 89 parts = Instr.fill (fun i => #[(0, 128), (128, 1)][i]?) z129 parts := by kernel_rfl
theorem z129_size : z129.size = 129 := by simp [z129]
end Go.Proofs.YtibepnilhmbpeaaDoor
namespace Go.Proofs.YtibepnilhmbpeaaDoor
set_option linter.unusedVariables false
set_option linter.unusedSimpArgs false
open Go.RowKit
theorem Rd.head {w : World} {b o : Nat} {c : UInt8} {xs : List UInt8} (h : Rd w (some ⟨b, o, none⟩) (c :: xs)) : w.cell? ⟨b, o, none⟩ = some (.int .u8 (c.toNat : Int)) := by
  obtain ⟨b', o', e, hc⟩ := h (by simp)
  cases e
  exact hc 0 (by simp)
/-- a sector's cells -/
def secV (xs : List UInt8) (t : Bool) : List Value := bv xs ++ [.bool t]
theorem secV_len (xs : List UInt8) (t : Bool) (h : xs.length = 128) : (secV xs t).length = 129 := by simp [secV, bv_length, h]
theorem secV_one (xs : List UInt8) (t : Bool) : ∀ v ∈ secV xs t, v.oneCell' = true := by
  intro v hv
  simp only [secV, List.mem_append, List.mem_singleton] at hv
  rcases hv with h | rfl
  · exact bv_one xs v h
  · rfl
theorem al {w w1 : World} (h : Below w.heap.size w w1) (o : Obj) : Below w.heap.size w (w1.alloc o) := h.alloc h.size o
theorem below_setCells {B g : Nat} {w0 w : World} (hb : Below B w0 w) (hBg : B ≤ g) (o : Nat) (cs : List Value) : Below B w0 (w.setCells g o cs) :=
  hb.trans ⟨(setCells_grown g cs o w).os, (setCells_grown g cs o w).tape, (setCells_grown g cs o w).output, (setCells_grown g cs o w).size, fun k hk => heap_setCells_far g cs o w k (by omega)⟩
theorem gr_below {a w w' : World} {row : Option Nat} (h : a.grownBy w row) (hb : Below w.heap.size w w') : a.grownBy w' row := Lib.grownBy_below h hb
theorem exec_load {P : Program} {a : Act} {oi : Oper} {t : TypeId} {x : Operand} (ho : oi.op = .load t x) {v : Value} {w : World} (h : (Instr.loadAt t (a.eval x)).run P w = .ok v w) : (execOp a.eval oi).run P w = .ok (.value v) w := by
  unfold execOp
  simp only [ho, Sem.run_bind, h, Result.andThen_ok]
  rfl
theorem there_new (w : World) (Z : Array Value) (t : TypeId) (n : Nat) (hn : n ≤ Z.size) : (w.alloc (.cells Z t)).there w.heap.size 0 n := by
  intro j hj
  have h := heap_alloc_new w (.cells Z t)
  refine ⟨?_, ?_⟩
  · rw [Nat.zero_add, cell_of_row _ _ j _ _ _ h]
    simp; omega
  · rw [Nat.zero_add]; exact frozen_of_row _ _ j _ _ h
theorem there_row {w : World} {g n : Nat} {Z : Array Value} {t : TypeId} (h : w.heap[g]? = some (.cells Z t (0, 0)) ∧ n ≤ Z.size) : w.there g 0 n := by
  intro j hj
  refine ⟨?_, ?_⟩
  · rw [Nat.zero_add, cell_of_row _ _ j _ _ _ h.1]
    simp; omega
  · rw [Nat.zero_add]; exact frozen_of_row _ _ j _ _ h.1
end Go.Proofs.YtibepnilhmbpeaaDoor
namespace Go.Proofs.YtibepnilhmbpeaaDoor
set_option linter.unusedVariables false
set_option linter.unusedSimpArgs false
open Go.RowKit
/-- the mark of a sector in an image -/
def rmk (t : Bool) : UInt8 := if t then 1 else 0
end Go.Proofs.YtibepnilhmbpeaaDoor
namespace Go.Proofs.YtibepnilhmbpeaaDoor
set_option linter.unusedVariables false
set_option linter.unusedSimpArgs false
open Go.RowKit
/-! rows of parts of one size -/
theorem flat_len {α β : Type} (f : α → List β) (n : Nat) : ∀ (l : List α), (∀ x ∈ l, (f x).length = n) → (l.flatMap f).length = l.length * n
  | [], _ => by simp
  | x :: l, h => by
    rw [List.flatMap_cons, List.length_append, h x (by simp), flat_len f n l (fun y hy => h y (by simp [hy])), List.length_cons, Nat.succ_mul]
    omega
theorem flat_drop {α β : Type} (f : α → List β) (n : Nat) : ∀ (l : List α) (k : Nat), (∀ x ∈ l, (f x).length = n) → (l.flatMap f).drop (k * n) = (l.drop k).flatMap f
  | l, 0, _ => by simp
  | [], k + 1, _ => by simp
  | x :: l, k + 1, h => by
    rw [List.flatMap_cons, List.drop_succ_cons, ← flat_drop f n l k (fun y hy => h y (by simp [hy])), Nat.succ_mul, Nat.add_comm, ← List.drop_drop, List.drop_left' (h x (by simp))]
theorem flat_take {α β : Type} (f : α → List β) (n : Nat) : ∀ (l : List α) (k : Nat), (∀ x ∈ l, (f x).length = n) → (l.flatMap f).take (k * n) = (l.take k).flatMap f
  | l, 0, _ => by simp
  | [], k + 1, _ => by simp
  | x :: l, k + 1, h => by
    rw [List.flatMap_cons, List.take_succ_cons, List.flatMap_cons, ← flat_take f n l k (fun y hy => h y (by simp [hy])), Nat.succ_mul, Nat.add_comm, List.take_append, h x (by simp), Nat.add_sub_cancel_left, List.take_of_length_le (by rw [h x (by simp)]; omega)]
theorem flat_at {α β : Type} (f : α → List β) (n : Nat) (l : List α) (h : ∀ x ∈ l, (f x).length = n) (k j : Nat) (hk : k < l.length) (hj : j < n) : (l.flatMap f)[k * n + j]? = (f l[k])[j]? := by
  rw [← List.getElem?_drop, flat_drop f n l k h, List.drop_eq_getElem_cons hk, List.flatMap_cons, List.getElem?_append_left (by rw [h _ (List.getElem_mem hk)]; exact hj)]
theorem flat_set {α β : Type} (f : α → List β) (n : Nat) (l : List α) (h : ∀ x ∈ l, (f x).length = n) (k : Nat) (hk : k < l.length) (y : α) (hy : (f y).length = n) : splice (l.flatMap f) (k * n) (f y) = (l.set k y).flatMap f := by
  unfold splice
  rw [hy, flat_take f n l k h, show k * n + n = (k + 1) * n from by rw [Nat.succ_mul], flat_drop f n l (k + 1) h, List.set_eq_take_append_cons_drop, if_pos hk, List.flatMap_append, List.flatMap_cons]
/-! sectors -/
structure Sec where
  text : List UInt8
  torn : Bool
def Sec.ok (s : Sec) : Prop := s.text.length = 128
def Sec.cells (s : Sec) : List Value := secV s.text s.torn
def Sec.row (s : Sec) : List UInt8 := rmk s.torn :: s.text
def Sec.zero : Sec := ⟨List.replicate 128 0, false⟩
theorem Sec.zero_ok : Sec.zero.ok := by simp [Sec.zero, Sec.ok]
theorem Sec.cells_len {s : Sec} (h : s.ok) : s.cells.length = 129 := secV_len s.text s.torn h
def secs (S : List Sec) : List Value := S.flatMap Sec.cells
def SOk (S : List Sec) : Prop := ∀ s ∈ S, s.ok
theorem secs_len {S : List Sec} (h : SOk S) : (secs S).length = S.length * 129 := flat_len _ _ S (fun s hs => Sec.cells_len (h s hs))
theorem secs_set {S : List Sec} (h : SOk S) (k : Nat) (hk : k < S.length) (y : Sec) (hy : y.ok) : splice (secs S) (k * 129) y.cells = secs (S.set k y) :=
  flat_set _ _ S (fun s hs => Sec.cells_len (h s hs)) k hk y (Sec.cells_len hy)
theorem SOk.set {S : List Sec} (h : SOk S) (k : Nat) (y : Sec) (hy : y.ok) : SOk (S.set k y) := by
  intro s hs
  rcases List.mem_or_eq_of_mem_set hs with h1 | rfl
  · exact h s h1
  · exact hy
theorem SOk.rep (n : Nat) : SOk (List.replicate n Sec.zero) := by
  intro s hs
  rw [List.eq_of_mem_replicate hs]
  exact Sec.zero_ok
/-- the k-th sector of a block of sectors -/
theorem secs_range {w : World} {g : Nat} {S : List Sec} {t : TypeId} {fr : Nat × Nat} (h : SOk S) (hg : w.heap[g]? = some (.cells (secs S).toArray t fr)) (k : Nat) (hk : k < S.length) : w.rangeAt g (k * 129) S[k].cells := by
  intro j v hv
  rw [cell_of_row _ _ _ _ _ _ hg]
  have hj : j < 129 := by rw [← Sec.cells_len (h _ (List.getElem_mem hk))]; exact (List.getElem?_eq_some_iff.1 hv).1
  rw [List.getElem?_toArray]
  exact (flat_at Sec.cells 129 S (fun s hs => Sec.cells_len (h s hs)) k j hk hj).trans hv
theorem secs_there {w : World} {g : Nat} {S : List Sec} {t : TypeId} (h : SOk S) (hg : w.heap[g]? = some (.cells (secs S).toArray t (0, 0))) (k : Nat) (hk : k < S.length) : w.there g (k * 129) 129 := by
  intro j hj
  refine ⟨?_, frozen_of_row _ _ _ _ _ hg⟩
  rw [cell_of_row _ _ _ _ _ _ hg]
  have := secs_len h
  simp only [List.getElem?_toArray]
  rw [List.getElem?_eq_getElem (by rw [this]; have : (k + 1) * 129 ≤ S.length * 129 := Nat.mul_le_mul_right _ hk; omega)]
  rfl
theorem made_secs (n : Nat) : madeCells z129 (n * 129) = (secs (List.replicate n Sec.zero)).toArray := by
  have hz : z129 = Sec.zero.cells.toArray := by
    apply Array.ext'
    simp [z129, Sec.zero, Sec.cells, secV, bv]
  have hl : Sec.zero.cells.length = 129 := Sec.cells_len Sec.zero_ok
  have h2 := secs_len (SOk.rep n)
  rw [List.length_replicate] at h2
  apply Array.ext_getElem?
  intro i
  simp only [List.getElem?_toArray]
  by_cases hi : i < n * 129
  · have hk : i / 129 < n := by rw [Nat.div_lt_iff_lt_mul (by decide)]; exact hi
    have hj : i % 129 < 129 := Nat.mod_lt _ (by decide)
    have e : i = i / 129 * 129 + i % 129 := by omega
    have h1 := flat_at Sec.cells 129 (List.replicate n Sec.zero) (fun s hs => Sec.cells_len (SOk.rep n s hs)) (i / 129) (i % 129) (by simpa using hk) hj
    rw [← e, List.getElem_replicate] at h1
    have h3 : (secs (List.replicate n Sec.zero))[i]? = Sec.zero.cells[i % 129]? := h1
    rw [h3, madeCells, z129_size, Array.getElem?_map, Array.getElem?_range, if_pos hi, hz]
    clear hz h1 h3 h2
    generalize Sec.zero.cells = C at *
    rw [List.getElem?_eq_getElem (by rw [hl]; exact hj), Option.map_some, getElem!_pos _ _ (by rw [List.size_toArray, hl]; exact hj), List.getElem_toArray]
  · have h1 : (madeCells z129 (n * 129)).size = n * 129 := by simp [madeCells]
    rw [Array.getElem?_eq_none (by omega), List.getElem?_eq_none (by omega)]
end Go.Proofs.YtibepnilhmbpeaaDoor
