import Derived.Test.YtibepnilhmbpeaaDoorKPe
import Derived.Test.YtibepnilhmbpeaaDoorSGc
import Derived.Test.YtibepnilhmbpeaaDoorSLi
namespace Go.Proofs.YtibepnilhmbpeaaDoor
set_option linter.unusedVariables false
set_option linter.unusedSimpArgs false
open Go.RowKit
theorem eqi_func_nil (w : World) (fuel : Nat) (fn : Fn) (a b : Array Value) : (Op.equalIn (fuel + 1) 63 (.func fn a b) .nilFunc).run Tryd.prog w = .ok false w := by
  simp [Op.equalIn, run_underlying Tryd.underlying63]
theorem eql_func_nil (w : World) (fn : Fn) (a b : Array Value) : (binOp .eql 63 (.func fn a b) .nilFunc).run Tryd.prog w = .ok (.bool false) w := by
  simp only [binOp]
  simp [Op.equal, Op.maxDepth, eqi_func_nil w 9999 fn a b]
/-- Records -/
theorem srecords_t (g m : Nat) (w : World) :
    Calls Tryd.prog 22 #[.pointer (some ⟨g, 0, none⟩), .int .u64 (m : Int)] w fun e w' => ∃ gl gn, e = .returned (.func (.func 47) #[] #[.pointer (some ⟨gl, 0, none⟩), .pointer (some ⟨gn, 0, none⟩)]) ∧ w'.cell? ⟨gl, 0, none⟩ = some (.pointer (some ⟨g, 0, none⟩)) ∧ w'.cell? ⟨gn, 0, none⟩ = some (.int .u64 (m : Int)) ∧ Below w.heap.size w w' := by
  go_enter Tryd.func22, Tryd.ntmps22
  go_wp2_with fail
  go_ret
  refine ⟨w.heap.size, w.heap.size + 1, rfl, ?_, ?_, alS (alS (Below.refl _ _) _) _⟩
  · rw [cell_of_row _ _ _ _ _ _ (below_blk (alS (Below.refl _ _) _) (heap_alloc_new w _))]; rfl
  · have h9 := heap_alloc_new (w.alloc (.cells #[.pointer (some ⟨g, 0, none⟩)] 31)) (.cells #[.int .u64 (m : Int)] 33)
    rw [show (w.alloc (.cells #[.pointer (some ⟨g, 0, none⟩)] 31)).heap.size = w.heap.size + 1 by simp] at h9
    rw [cell_of_row _ _ _ _ _ _ h9]; rfl
end Go.Proofs.YtibepnilhmbpeaaDoor
namespace Go.Proofs.YtibepnilhmbpeaaDoor
set_option linter.unusedVariables false
set_option linter.unusedSimpArgs false
open Go.RowKit Go.Shelf
attribute [local go_sem] Oper.semAt_some
/-- how many pieces the first records have -/
def usedT (T : List Itm) : Nat → Nat
  | 0 => 0
  | i + 1 => usedT T i + (match T[i]? with | some t => t.need | none => 0)
theorem name_actK {F : Fence} {n : Nat} {P : Program} {c : Code} {Q : Exit → Act → World → Prop} {t : Array Value} {d : List Deferred} {w : World} (h : ∀ T : Array Value, T = t → c.wpIn F n P Q { tmps := T, defers := d } w) : c.wpIn F n P Q { tmps := t, defers := d } w := h t rfl
theorem foldK (t : Array Value) (a b : Value) : ((#[16, 17] : Array Nat).zip #[a, b]).foldl (fun t (x : Nat × Value) => t.setIfInBounds x.1 x.2) t = (t.setIfInBounds 16 a).setIfInBounds 17 b := by
  have e : (#[16, 17] : Array Nat).zip #[a, b] = #[(16, a), (17, b)] := by simp [Array.zip, ← Array.toList_inj]
  rw [e]
  simp
/-- amid is: the counters -/
structure IsR (w z V : World) (kb B1 B2 B3 B4 : Nat) (Z : BlkS) (i us : Nat) : Prop where
  b1 : V.heap[B1]? = some (.cells #[.pointer (some ⟨kb, 0, none⟩)] 23 (0, 0))
  b2 : V.heap[B2]? = some (.cells #[.bool false] 4 (0, 0))
  b3 : V.heap[B3]? = some (.cells #[.int .i64 (i : Int)] 3 (0, 0))
  b4 : V.heap[B4]? = some (.cells #[.int .i64 (us : Int)] 3 (0, 0))
  bel : Below w.heap.size w V
  n3 : ¬ Z B3
  n4 : ¬ Z B4
  zl : ∀ j, Z j → j < V.heap.size
  sz : z.heap.size ≤ V.heap.size
theorem IsR.grow {w z V V' : World} {kb B1 B2 B3 B4 : Nat} {Z : BlkS} {i us : Nat} {row : Option Nat} (h : IsR w z V kb B1 B2 B3 B4 Z i us) (hwz : w.heap.size ≤ z.heap.size) (hg : V.grownBy V' row) (hr : ∀ r, row = some r → z.heap.size ≤ r ∧ ∃ o : Obj, V.heap[r]? = some o ∧ o.isCells = false) : IsR w z V' kb B1 B2 B3 B4 (fun j => Z j ∨ (V.heap.size ≤ j ∧ j < V'.heap.size)) i us := by
  have hkp : ∀ (b : Nat) (C : Array Value) (t : TypeId), V.heap[b]? = some (.cells C t (0, 0)) → V'.heap[b]? = V.heap[b]? := fun b C t hb => hg.block b (Array.getElem?_eq_some_iff.1 hb).1 (fun e => by
    obtain ⟨-, o, h1, h2⟩ := hr b e.symm
    rw [hb] at h1
    cases h1
    cases h2)
  have l3 := (Array.getElem?_eq_some_iff.1 h.b3).1
  have l4 := (Array.getElem?_eq_some_iff.1 h.b4).1
  refine ⟨(hkp _ _ _ h.b1).trans h.b1, (hkp _ _ _ h.b2).trans h.b2, (hkp _ _ _ h.b3).trans h.b3, (hkp _ _ _ h.b4).trans h.b4, h.bel.grown hg (by have := h.sz; omega) (fun r e => by have := (hr r e).1; omega), ?_, ?_, ?_, Nat.le_trans h.sz hg.size⟩
  · rintro (h9 | ⟨h9, -⟩)
    · exact h.n3 h9
    · omega
  · rintro (h9 | ⟨h9, -⟩)
    · exact h.n4 h9
    · omega
  · rintro j (h9 | ⟨-, h9⟩)
    · exact Nat.lt_of_lt_of_le (h.zl j h9) hg.size
    · exact h9
theorem IsR.below {w z V V' : World} {kb B1 B2 B3 B4 : Nat} {Z : BlkS} {i us : Nat} (h : IsR w z V kb B1 B2 B3 B4 Z i us) (hb : Below V.heap.size V V') : IsR w z V' kb B1 B2 B3 B4 Z i us := ⟨below_blk hb h.b1, below_blk hb h.b2, below_blk hb h.b3, below_blk hb h.b4, below_next h.bel hb, h.n3, h.n4, fun j hj => Nat.lt_of_lt_of_le (h.zl j hj) hb.size, Nat.le_trans h.sz hb.size⟩
theorem IsR.used {w z V : World} {kb B1 B2 B3 B4 : Nat} {Z : BlkS} {i us us' : Nat} (h : IsR w z V kb B1 B2 B3 B4 Z i us) (hB : B1 = w.heap.size ∧ B2 = B1 + 1 ∧ B3 = B1 + 2 ∧ B4 = B1 + 3) (h4 : B4 < z.heap.size) (u : World) (hu : u = (V.setCell ⟨B4, 0, none⟩ (.int .i64 (us' : Int))).drew) : KeepsFrom z.heap.size V u ∧ KeepZ Z V u ∧ IsR w z u kb B1 B2 B3 B4 Z i us' := by
  have k1 : KeepsOthers V u := by rw [hu]; exact (KeepsOthers.setCell _ _ _).trans (KeepsOthers.drew _)
  have ho : ∀ j, j ≠ B4 → u.heap[j]? = V.heap[j]? := fun j hj => by rw [hu, heap_drew]; exact heap_setCell_other V ⟨B4, 0, none⟩ j _ (by simpa using hj)
  have hz : u.heap.size = V.heap.size := by rw [hu]; simp
  refine ⟨k1.from _, fun j hj => ho j (fun e => h.n4 (e ▸ hj)), (ho _ (by omega)).trans h.b1, (ho _ (by omega)).trans h.b2, (ho _ (by omega)).trans h.b3, ?_, ?_, h.n3, h.n4, fun j hj => by rw [hz]; exact h.zl j hj, by rw [hz]; exact h.sz⟩
  · rw [hu, heap_drew, heap_setCell_same V B4 0 _ _ _ h.b4]; rfl
  · rw [hu]; exact (h.bel.setCell (p := ⟨B4, 0, none⟩) (by show w.heap.size ≤ B4; omega) _).drew
theorem IsR.next {w z V : World} {kb B1 B2 B3 B4 : Nat} {Z : BlkS} {i us : Nat} (h : IsR w z V kb B1 B2 B3 B4 Z i us) (hB : B1 = w.heap.size ∧ B2 = B1 + 1 ∧ B3 = B1 + 2 ∧ B4 = B1 + 3) (h4 : B4 < z.heap.size) (u : World) (hu : u = V.setCell ⟨B3, 0, none⟩ (.int .i64 ((i : Int) + 1))) : KeepsFrom z.heap.size V u ∧ KeepZ Z V u ∧ IsR w z u kb B1 B2 B3 B4 Z (i + 1) us := by
  have k1 : KeepsOthers V u := by rw [hu]; exact KeepsOthers.setCell _ _ _
  have ho : ∀ j, j ≠ B3 → u.heap[j]? = V.heap[j]? := fun j hj => by rw [hu]; exact heap_setCell_other V ⟨B3, 0, none⟩ j _ (by simpa using hj)
  have hz : u.heap.size = V.heap.size := by rw [hu]; simp
  refine ⟨k1.from _, fun j hj => ho j (fun e => h.n3 (e ▸ hj)), (ho _ (by omega)).trans h.b1, (ho _ (by omega)).trans h.b2, ?_, (ho _ (by omega)).trans h.b4, ?_, h.n3, h.n4, fun j hj => by rw [hz]; exact h.zl j hj, by rw [hz]; exact h.sz⟩
  · rw [hu, heap_setCell_same V B3 0 _ _ _ h.b3, show ((i + 1 : Nat) : Int) = (i : Int) + 1 by omega]; rfl
  · rw [hu]; exact (h.bel.setCell (p := ⟨B3, 0, none⟩) (by show w.heap.size ≤ B3; omega) _)
theorem IsR.kept {w z V V' : World} {kb B1 B2 B3 B4 : Nat} {Z : BlkS} {i us : Nat} (h : IsR w z V kb B1 B2 B3 B4 Z i us) (hb : Below V.heap.size V V') : KeepsFrom z.heap.size V V' ∧ KeepZ Z V V' := ⟨⟨hb.size, fun k o _ hk _ => below_blk hb hk⟩, fun j hj => hb.block j (h.zl j hj)⟩
/-- amid is, behind the range: what the last line reads -/
structure IsQ (w u : World) (kb B1 B3 B4 m us : Nat) : Prop where
  b1 : u.heap[B1]? = some (.cells #[.pointer (some ⟨kb, 0, none⟩)] 23 (0, 0))
  b3 : u.heap[B3]? = some (.cells #[.int .i64 (m : Int)] 3 (0, 0))
  b4 : u.heap[B4]? = some (.cells #[.int .i64 (us : Int)] 3 (0, 0))
  bel : Below w.heap.size w u
theorem IsQ.below {w u u' : World} {kb B1 B3 B4 m us : Nat} (h : IsQ w u kb B1 B3 B4 m us) (hb : Below u.heap.size u u') : IsQ w u' kb B1 B3 B4 m us := ⟨below_blk hb h.b1, below_blk hb h.b3, below_blk hb h.b4, below_next h.bel hb⟩
theorem IsQ.set {w u : World} {kb B1 B2 B3 B4 m us : Nat} (h : IsQ w u kb B1 B3 B4 m us) (hB : B1 = w.heap.size ∧ B2 = B1 + 1 ∧ B3 = B1 + 2 ∧ B4 = B1 + 3) (v : Value) : IsQ w (u.setCell ⟨B2, 0, none⟩ v) kb B1 B3 B4 m us := by
  have ho : ∀ j, j ≠ B2 → (u.setCell ⟨B2, 0, none⟩ v).heap[j]? = u.heap[j]? := fun j hj => heap_setCell_other u ⟨B2, 0, none⟩ j _ (by simpa using hj)
  exact ⟨(ho _ (by omega)).trans h.b1, (ho _ (by omega)).trans h.b3, (ho _ (by omega)).trans h.b4, h.bel.setCell (p := ⟨B2, 0, none⟩) (by show w.heap.size ≤ B2; omega) _⟩
theorem IsQ.drew {w u : World} {kb B1 B3 B4 m us : Nat} (h : IsQ w u kb B1 B3 B4 m us) : IsQ w u.drew kb B1 B3 B4 m us := ⟨h.b1, h.b3, h.b4, h.bel.drew⟩
theorem results_cb {fn : Func} {p : Tmp} (h : fn.results = #[.cell p 4]) (tmps : Array Value) {W : World} {B : Nat} {ok : Bool} (hB : W.heap[B]? = some (.cells #[.bool ok] 4 (0, 0)))
    (h1 : tmps.getD p undef = .pointer (some ⟨B, 0, none⟩)) : (results fn tmps).run Tryd.prog W = .ok (.bool ok) W := by
  have h1' : tmps[p]?.getD undef = .pointer (some ⟨B, 0, none⟩) := by simpa using h1
  have c3 : W.cell? ⟨B, 0, none⟩ = some (.bool ok) := by rw [cell_of_row _ _ _ _ _ _ hB]; rfl
  have e3 : (loadVar 4 ⟨B, 0, none⟩).run Tryd.prog W = .ok (.bool ok) W := by go_simp
  simp only [results, h]
  simp [Sem.run_bind, Result.andThen, h1', asAddr, e3]
theorem IsR.less {w z V : World} {kb B1 B2 B3 B4 : Nat} {Z Z' : BlkS} {i us : Nat} (h : IsR w z V kb B1 B2 B3 B4 Z i us) (hz : ∀ j, Z' j → Z j) : IsR w z V kb B1 B2 B3 B4 Z' i us := ⟨h.b1, h.b2, h.b3, h.b4, h.bel, fun h9 => h.n3 (hz _ h9), fun h9 => h.n4 (hz _ h9), fun j hj => h.zl j (hz j hj), h.sz⟩
theorem usedT_cons (t : Itm) (r : List Itm) : ∀ i, usedT (t :: r) (i + 1) = t.need + usedT r i
  | 0 => by show 0 + t.need = t.need + 0; omega
  | i + 1 => by
    show usedT (t :: r) (i + 1) + (match (t :: r)[i + 1]? with | some t => t.need | none => 0) = t.need + (usedT r i + (match r[i]? with | some t => t.need | none => 0))
    rw [usedT_cons t r i, List.getElem?_cons_succ]
    omega
theorem usedT_all : ∀ {T : List Itm} {f n : Nat}, Chn f T n → f + usedT T T.length = n
  | [], f, n, h => by have h : f = n := h; show f + 0 = n; omega
  | t :: r, f, n, h => by
    have h1 := usedT_all h.2
    have h2 := h.1
    rw [List.length_cons, usedT_cons]
    omega
theorem usedT_mono (T : List Itm) : ∀ {i j : Nat}, i ≤ j → usedT T i ≤ usedT T j
  | i, 0, h => by obtain rfl : i = 0 := by omega
                  exact Nat.le_refl _
  | i, j + 1, h => by
    by_cases e : i = j + 1
    · rw [e]; exact Nat.le_refl _
    · have h1 := usedT_mono T (i := i) (j := j) (by omega)
      have h2 : usedT T (j + 1) = usedT T j + (match T[j]? with | some t => t.need | none => 0) := rfl
      omega
theorem four_new (w : World) (o1 o2 o3 o4 : Obj) : ((((w.alloc o1).alloc o2).alloc o3).alloc o4).heap[w.heap.size]? = some o1 ∧ ((((w.alloc o1).alloc o2).alloc o3).alloc o4).heap[w.heap.size + 1]? = some o2 ∧ ((((w.alloc o1).alloc o2).alloc o3).alloc o4).heap[w.heap.size + 1 + 1]? = some o3 ∧ ((((w.alloc o1).alloc o2).alloc o3).alloc o4).heap[w.heap.size + 1 + 1 + 1]? = some o4 := by
  have s1 : (w.alloc o1).heap.size = w.heap.size + 1 := by simp
  have s2 : ((w.alloc o1).alloc o2).heap.size = w.heap.size + 1 + 1 := by simp
  have s3 : (((w.alloc o1).alloc o2).alloc o3).heap.size = w.heap.size + 1 + 1 + 1 := by simp
  have h1 := heap_alloc_new w o1
  have h2 := heap_alloc_new (w.alloc o1) o2
  have h3 := heap_alloc_new ((w.alloc o1).alloc o2) o3
  have h4 := heap_alloc_new (((w.alloc o1).alloc o2).alloc o3) o4
  rw [s1] at h2; rw [s2] at h3; rw [s3] at h4
  exact ⟨below_blk (alS (alS (alS (Below.refl _ _) _) _) _) h1, below_blk (alS (alS (Below.refl _ _) _) _) h2, below_blk (alS (Below.refl _ _) _) h3, h4⟩
set_option maxRecDepth 100000 in
set_option maxHeartbeats 6400000 in
theorem kis_t {w : World} {kb g p n : Nat} {x : Lg} {d : Dst} {X Y : Nat → Prop} {T : List Itm} {k : Kp} (h : Kst w kb g p x d n X Y T k) (hnx : x.nx < 281474976710656) :
    Calls Tryd.prog 15 #[.pointer (some ⟨kb, 0, none⟩)] w fun e w' => e = .returned (.bool true) ∧ Below w.heap.size w w' := by
  obtain ⟨hA, hL, hKF⟩ := h
  have HA : Hid (KpA w kb g p x d n X Y T k) := hA
  have HLV : Hid (Liv d x T) := hL
  have HKF : Hid (KpF k x) := hKF
  have hefn := eql_func_nil
  obtain ⟨c0, c1, -⟩ := hA.cl
  have HKB : Hid (kb < w.heap.size) := by
    obtain ⟨-, ⟨ia, ic, N, hbx, -⟩, -⟩ := hA
    exact (Array.getElem?_eq_some_iff.1 hbx).1
  clear hA hL hKF
  refine (callsIn_wide (n := 12)).1 ?_
  refine callsIn_of_wp_marks Tryd.func15 rfl trivial ?_ rfl
  simp only [Tryd.ntmps15, List.size_toArray, List.length_cons, List.length_nil, Nat.reduceAdd, Nat.reduceSub, Array.replicate_succ, Array.replicate_zero, List.push_toArray, List.append_toArray, List.nil_append, List.cons_append]
  refine wpIn_wide.2 ?_
  go_upto_region 3 with fail
  have hb4 : Below w.heap.size w ((((w.alloc (.cells #[.pointer (some ⟨kb, 0, none⟩)] 23)).alloc (.cells #[.bool false] 4)).alloc (.cells #[.int .i64 0] 3)).alloc (.cells #[.int .i64 0] 3)) := alS (alS (alS (alS (Below.refl _ _) _) _) _) _
  obtain ⟨f1, f2, f3, f4⟩ := four_new w (.cells #[.pointer (some ⟨kb, 0, none⟩)] 23) (.cells #[.bool false] 4) (.cells #[.int .i64 0] 3) (.cells #[.int .i64 0] 3)
  generalize ((((w.alloc (.cells #[.pointer (some ⟨kb, 0, none⟩)] 23)).alloc (.cells #[.bool false] 4)).alloc (.cells #[.int .i64 0] 3)).alloc (.cells #[.int .i64 0] 3)) = W4 at *
  obtain ⟨B1, hB1⟩ : ∃ B1, B1 = w.heap.size := ⟨_, rfl⟩
  obtain ⟨B2, hB2⟩ : ∃ B2, B2 = w.heap.size + 1 := ⟨_, rfl⟩
  obtain ⟨B3, hB3⟩ : ∃ B3, B3 = w.heap.size + 1 + 1 := ⟨_, rfl⟩
  obtain ⟨B4, hB4⟩ : ∃ B4, B4 = w.heap.size + 1 + 1 + 1 := ⟨_, rfl⟩
  rw [← hB4] at f4 ⊢
  rw [← hB3] at f3 ⊢
  rw [← hB2] at f2 ⊢
  rw [← hB1] at f1 ⊢
  have HBN : Hid (B1 = w.heap.size ∧ B2 = B1 + 1 ∧ B3 = B1 + 2 ∧ B4 = B1 + 3) := ⟨hB1, by omega, by omega, by omega⟩
  have HB4 : Hid (Below w.heap.size w W4) := hb4
  have HF4 : Hid (W4.heap[B1]? = some (.cells #[.pointer (some ⟨kb, 0, none⟩)] 23 (0, 0)) ∧ W4.heap[B2]? = some (.cells #[.bool false] 4 (0, 0)) ∧ W4.heap[B3]? = some (.cells #[.int .i64 0] 3 (0, 0)) ∧ W4.heap[B4]? = some (.cells #[.int .i64 0] 3 (0, 0))) := ⟨f1, f2, f3, f4⟩
  have e1 : W4.cell? ⟨B1, 0, none⟩ = some (.pointer (some ⟨kb, 0, none⟩)) := by rw [cell_of_row _ _ _ _ _ _ f1]; rfl
  obtain ⟨-, e2, -⟩ := (HA.out.below hb4).cl
  have HRC : Hid (Calls _ _ _ W4 _) := srecords_t g 0 W4
  clear c0 c1 f1 f2 f3 f4 hb4 hB1 hB2 hB3 hB4
  go_wp2_with (go_at_call 22; refine Calls.mono HRC.out ?_; rintro e u5 ⟨gl, gn, rfl, hgl, hgn, hb5⟩; have HG5 : Hid (u5.cell? ⟨gl, 0, none⟩ = some (.pointer (some ⟨g, 0, none⟩)) ∧ u5.cell? ⟨gn, 0, none⟩ = some (.int .u64 ((0 : Nat) : Int))) := ⟨hgl, hgn⟩; have HB5 : Hid (Below W4.heap.size W4 u5) := hb5; clear hgl hgn hb5)
  have hb5 := HB5.out
  have hA5 := (HA.out.below HB4.out).below hb5
  have hl5 : LogX u5 g p x d n X := hA5.log
  obtain ⟨⟨sa, sc, F, hm5, -⟩, -⟩ := hl5
  have hR0 : T.map (fun t => (t.n, t.b)) = fromL d x.A x.Z x.h.e (x.L.drop (cntB x.L 0)) := by
    have h9 := HLV.out.from_ 0
    rw [cntB_all (fun s _ => Nat.zero_le _), h9, List.drop_zero]
  obtain ⟨R, hR⟩ : ∃ R, R = T.map (fun t => (t.n, t.b)) := ⟨_, rfl⟩
  have HR : Hid (R = T.map (fun t => (t.n, t.b))) := hR
  have HSQ : Hid (SeqG Fence.wide 11 Tryd.prog 47 #[.pointer (some ⟨gl, 0, none⟩), .pointer (some ⟨gn, 0, none⟩)] encN (AtN R u5.heap.size) (fun _ => False) (fun xs => xs.length = R.length) (fun pre => pre.length ≤ R.length) u5) := srecG hm5 HLV.out.fl HLV.out.pw.on (fun s hs => by have := HLV.out.slt s hs; omega) HG5.out.1 HG5.out.2 11 (by decide) _ R (by rw [hR, hR0])
  have HWZ : Hid (w.heap.size ≤ u5.heap.size) := Nat.le_trans HB4.out.size hb5.size
  have hF5 : ∀ {B : Nat} {o : Obj}, W4.heap[B]? = some o → u5.heap[B]? = some o := fun h => below_blk hb5 h
  have HI5 : Hid (IsR w u5 u5 kb B1 B2 B3 B4 (fun _ => False) 0 0) := ⟨hF5 HF4.out.1, hF5 HF4.out.2.1, hF5 HF4.out.2.2.1, hF5 HF4.out.2.2.2, below_next HB4.out hb5, id, id, fun _ h => h.elim, Nat.le_refl _⟩
  clear e1 e2 hb5 hA5 hm5 hR0 hR hF5
  refine (wpIn_wide (n := 12)).1 ?_
  refine name_actK ?_
  intro T0 hT0
  refine wpIn_rangeFunc_G rfl (by decide) (gf := 47) (lb := #[.pointer (some ⟨gl, 0, none⟩), .pointer (some ⟨gn, 0, none⟩)]) (by subst hT0; rfl) trivial (enters_of Tryd.func47 (by kernel_rfl) rfl) HSQ.out (fun pre x Z V l o o' h h1 h2 => h.put h1 h2) (fun k hk => hk.elim) (fun _ => rfl)
    (fun pre Z V => IsR w u5 V kb B1 B2 B3 B4 Z pre.length (usedT T pre.length))
    (fun c pre Z V => False)
    ⟨fun s Z V V' row hs hg hr => hs.grow HWZ.out hg hr, fun s Z Z' V hs hz => hs.less hz⟩
    (fun c => ⟨fun s Z V V' row hs _ _ => hs, fun s Z Z' V hs _ => hs⟩)
    HI5.out
    (fun y a' V => a' = { tmps := (((T0.setIfInBounds 16 (.int .u64 (y.n : Int))).setIfInBounds 17 y.v).setIfInBounds 6 (.int .u64 (y.n : Int))).setIfInBounds 7 y.v, defers := [] })
    (fun y a' s A B row hs hg hr => hs)
    ?assign ?body ?done ?stop
  case assign =>
    rintro l pre Z ⟨yn, ya, ym, yc⟩ V K hI hAt hK
    subst hT0
    simp only [foldK, List.setIfInBounds_toArray, List.set_cons_zero, List.set_cons_succ]
    gi_wp2
    exact hK _ _ ⟨Nat.le_refl _, fun k o _ h1 _ => h1⟩ (fun k hk => rfl) hI hAt rfl
  case body =>
    rintro l pre Z ⟨yn, ya, ym, yc⟩ a' V hl hlr hI hAt rfl
    obtain ⟨r, hr, hyn, hown⟩ := hAt.ex
    obtain ⟨i, hi⟩ : ∃ i, i = pre.length := ⟨_, rfl⟩
    rw [← hi] at hI hr
    have HPL : Hid (pre.length = i) := hi.symm
    rw [HR.out, List.getElem?_map] at hr
    obtain ⟨t, ht, rfl⟩ := Option.map_eq_some_iff.1 hr
    have hyn1 : yn = t.n := hyn
    clear hyn
    subst hyn1
    obtain ⟨L, hL⟩ : ∃ L, L = t.b.length := ⟨_, rfl⟩
    obtain ⟨a2, c2, hv2, -, -, -, hrd2, -⟩ := Own.val hown
    injection (show Value.slice ya ym yc = .slice a2 t.b.length c2 from hv2) with e1 e2 e3
    clear hv2
    subst e1; subst e3
    rw [← hL] at e2
    have e4 := e2.symm
    clear e2
    subst e4
    have hA2 := HA.out.below hI.bel
    obtain ⟨-, ⟨ia, ic, N, hbx, hmid, hits, -, -, -⟩, -⟩ := hA2
    have hiT : i < T.length := (List.getElem?_eq_some_iff.1 ht).1
    have hiN : i < N.length := by rw [hits.len]; exact hiT
    obtain ⟨y, hy⟩ : ∃ y, y = N[i] := ⟨_, rfl⟩
    have hyN : N[i]? = some y := by rw [hy]; exact List.getElem?_eq_getElem hiN
    obtain ⟨hyn2, Bq, hown2⟩ := hits.at_ i y t hyN ht
    obtain ⟨zn, za, zm, zc⟩ := y
    have hyn3 : zn = t.n := hyn2
    clear hyn2
    subst hyn3
    obtain ⟨a3, c3, hv3, -, -, -, hrd3, -⟩ := Own.val hown2
    injection (show Value.slice za zm zc = .slice a3 t.b.length c3 from hv3) with e1 e2 e3
    clear hv3
    subst e1; subst e3
    rw [← hL] at e2
    have e4 := e2.symm
    clear e2
    subst e4
    obtain ⟨a4, c4, hv4, -, -, hrdN⟩ := hmid.val
    injection hv4 with e1 e2 e3
    subst e1; subst e3
    obtain ⟨bi, oi, e1, hrg, -⟩ := hrdN i hiN
    rw [← hy] at hrg
    subst e1
    obtain ⟨m, hm⟩ : ∃ m, m = N.length := ⟨_, rfl⟩
    rw [← hm] at hbx hiN
    have hmT : m = T.length := by rw [hm, hits.len]
    have hiI : (i : Int) < (m : Int) := by omega
    have hi0 : (0 : Int) ≤ (i : Int) := by omega
    have hge : ¬ ((m : Int) ≤ (i : Int)) := by omega
    have hsz := HLV.out.size
    have hfit := HLV.out.fit
    have hAZ := HLV.out.AZ
    have hLN := HLV.out.N
    have hkw : IntKind.i64.wrap ((i : Int) + 1) = ((i + 1 : Nat) : Int) := by rw [IntKind.wrap_i64]; omega
    have htok := (HLV.out.ok t (List.mem_of_getElem? ht)).1
    obtain ⟨M, hM⟩ : ∃ M, M = needS L := ⟨_, rfl⟩
    have hMp := needS_pos (L := L) (by rw [hL]; exact htok.len)
    rw [← hM] at hMp
    obtain ⟨us, hus⟩ : ∃ us, us = usedT T i := ⟨_, rfl⟩
    have husl : us + M ≤ 65536 := by
      have h0 := usedT_all HLV.out.ch
      have h1 := usedT_mono T (i := i + 1) (j := T.length) hiT
      have h2 : usedT T (i + 1) = usedT T i + t.need := by show usedT T i + _ = _; rw [ht]
      have h3 : t.need = M := by rw [hM, hL]
      omega
    have husn : usedT T (i + 1) = us + M := by
      show usedT T i + _ = _
      rw [ht, hus, hM, hL]
    have huw : IntKind.i64.wrap ((us : Int) + (M : Int)) = ((us + M : Nat) : Int) := by rw [IntKind.wrap_i64]; omega
    rw [← hus] at hI
    have HNE : Hid (∀ u, Calls Tryd.prog 11 #[.int .i64 (L : Int)] u fun er w' => er = .returned (.int .i64 (M : Int)) ∧ w' = u) := fun u => by rw [hM]; exact need_t L (by rw [hL]; have := htok.len; omega) u
    have HBY : Hid (∀ u, Below V.heap.size V u → Calls _ _ _ u _) := fun u hu => bytesSame_t ya za L yc zc t.b hL (by rw [hL]; have := htok.len; omega) u (hrd2.below hu) (hrd3.below hu)
    have HFV : Hid (∀ u, Below V.heap.size V u → u.cell? ⟨B3, 0, none⟩ = some (.int .i64 (i : Int)) ∧ u.cell? ⟨B1, 0, none⟩ = some (.pointer (some ⟨kb, 0, none⟩)) ∧ u.cell? ⟨kb, 3, none⟩ = some (.slice (some ⟨bi, oi, none⟩) m ic) ∧ u.cell? ⟨bi, oi + i * 2, none⟩ = some (.int .u64 (t.n : Int)) ∧ u.cell? ⟨bi, oi + i * 2 + 1, none⟩ = some (.slice za L zc)) := fun u hu => by
      refine ⟨?_, ?_, ?_, ?_, ?_⟩
      · rw [cell_of_row _ _ _ _ _ _ (below_blk hu hI.b3)]; rfl
      · rw [cell_of_row _ _ _ _ _ _ (below_blk hu hI.b1)]; rfl
      · exact (cells11 (below_blk hu hbx)).2.2.2.1
      · have h9 := rangeAt_below hrg hu 0 (.int .u64 (t.n : Int)) rfl; rw [Nat.add_zero] at h9; exact h9
      · exact rangeAt_below hrg hu 1 (.slice za L zc) rfl
    have HI : Hid (IsR w u5 V kb B1 B2 B3 B4 Z i us) := hI
    have HUS : Hid (usedT T (i + 1) = us + M) := husn
    have HV0 : Hid (Below V.heap.size V V.drew) := (Below.refl _ _).drew
    clear hI hAt hr hown hrd2 hbx hmid hits hown2 hrd3 hrdN hrg hyN hy hmT hsz hfit hAZ hLN htok hMp hus husn hM hm hL hi ht
    subst hT0
    simp only [List.setIfInBounds_toArray, List.set_cons_zero, List.set_cons_succ]
    gi_wp2
    refine wpIn_region_held_drew (S := (fun u => Below V.heap.size V u)) (by kernel_rfl) (by first | exact HV0.out | exact HU9.out | assumption) (by kernel_rfl) (fun ⟨_, _, h9⟩ => h9) (fun hHeld => ?_)
    refine take_at (i := 0) 18 (v := .int .i64 (i : Int)) rfl rfl (by kernel_rfl) (by kernel_rfl) (by kernel_rfl) (fun _ _ _ h => h) (by rfl) ?_ hHeld ?_
    · (intro w hSw; have hc9 := (HFV.out _ hSw).1; go_simp; try with_reducible rfl)
    simp only [Act.put, List.setIfInBounds_toArray, List.set_cons_zero, List.set_cons_succ]
    refine take_at (i := 1) 19 (v := .pointer (some ⟨kb, 0, none⟩)) rfl rfl (by kernel_rfl) (by kernel_rfl) (by kernel_rfl) (fun _ _ _ h => h) (by rfl) ?_ hHeld ?_
    · (intro w hSw; have hc9 := (HFV.out _ hSw).2.1; go_simp; try with_reducible rfl)
    simp only [Act.put, List.setIfInBounds_toArray, List.set_cons_zero, List.set_cons_succ]
    refine take_at (i := 2) 20 (v := ?_) rfl rfl (by kernel_rfl) (by kernel_rfl) (by kernel_rfl) (fun _ _ _ h => h) (by rfl) ?_ hHeld ?_
    rotate_left
    · (intro w hSw; (try dsimp only at hSw); go_simp; try with_reducible rfl)
    simp only [Act.put, List.setIfInBounds_toArray, List.set_cons_zero, List.set_cons_succ]
    refine take_at (i := 3) 21 (v := ?_) rfl rfl (by kernel_rfl) (by kernel_rfl) (by kernel_rfl) (fun _ _ _ h => h) (by rfl) ?_ hHeld ?_
    rotate_left
    · (intro w hSw; (try dsimp only at hSw); go_simp; try with_reducible rfl)
    simp only [Act.put, List.setIfInBounds_toArray, List.set_cons_zero, List.set_cons_succ]
    refine take_at (i := 4) 22 (v := .slice (some ⟨bi, oi, none⟩) m ic) rfl rfl (by kernel_rfl) (by kernel_rfl) (by kernel_rfl) (fun _ _ _ h => h) (by rfl) ?_ hHeld ?_
    · (intro w hSw; have hc9 := (HFV.out _ hSw).2.2.1; go_simp; try with_reducible rfl)
    simp only [Act.put, List.setIfInBounds_toArray, List.set_cons_zero, List.set_cons_succ]
    refine take_at (i := 5) 23 (v := ?_) rfl rfl (by kernel_rfl) (by kernel_rfl) (by kernel_rfl) (fun _ _ _ h => h) (by rfl) ?_ hHeld ?_
    rotate_left
    · (intro w hSw; (try dsimp only at hSw); go_simp; try with_reducible rfl)
    simp only [Act.put, List.setIfInBounds_toArray, List.set_cons_zero, List.set_cons_succ]
    refine take_at (i := 6) 24 (v := .bool false) rfl rfl (by kernel_rfl) (by kernel_rfl) (by kernel_rfl) (fun _ _ _ h => h) (by rfl) ?_ hHeld ?_
    · (intro w hSw; go_simp; try omega)
    simp only [Act.put, List.setIfInBounds_toArray, List.set_cons_zero, List.set_cons_succ]
    refine take_at (i := 7) 25 (v := .bool false) rfl rfl (by kernel_rfl) (by kernel_rfl) (by kernel_rfl) (fun _ _ _ h => h) (by rfl) ?_ hHeld ?_
    · (intro w hSw; go_simp; try omega)
    simp only [Act.put, List.setIfInBounds_toArray, List.set_cons_zero, List.set_cons_succ]
    refine take_at (i := 8) 26 (v := ?_) rfl rfl (by kernel_rfl) (by kernel_rfl) (by kernel_rfl) (fun _ _ _ h => h) (by rfl) ?_ hHeld ?_
    rotate_left
    · (intro w hSw; (try dsimp only at hSw); go_simp; try with_reducible rfl)
    simp only [Act.put, List.setIfInBounds_toArray, List.set_cons_zero, List.set_cons_succ]
    refine take_at (i := 9) 27 (v := .pointer (some ⟨kb, 0, none⟩)) rfl rfl (by kernel_rfl) (by kernel_rfl) (by kernel_rfl) (fun _ _ _ h => h) (by rfl) ?_ hHeld ?_
    · (intro w hSw; have hc9 := (HFV.out _ hSw).2.1; go_simp; try with_reducible rfl)
    simp only [Act.put, List.setIfInBounds_toArray, List.set_cons_zero, List.set_cons_succ]
    refine take_at (i := 10) 28 (v := ?_) rfl rfl (by kernel_rfl) (by kernel_rfl) (by kernel_rfl) (fun _ _ _ h => h) (by rfl) ?_ hHeld ?_
    rotate_left
    · (intro w hSw; (try dsimp only at hSw); go_simp; try with_reducible rfl)
    simp only [Act.put, List.setIfInBounds_toArray, List.set_cons_zero, List.set_cons_succ]
    refine take_at (i := 11) 29 (v := ?_) rfl rfl (by kernel_rfl) (by kernel_rfl) (by kernel_rfl) (fun _ _ _ h => h) (by rfl) ?_ hHeld ?_
    rotate_left
    · (intro w hSw; (try dsimp only at hSw); go_simp; try with_reducible rfl)
    simp only [Act.put, List.setIfInBounds_toArray, List.set_cons_zero, List.set_cons_succ]
    refine take_at (i := 12) 30 (v := .slice (some ⟨bi, oi, none⟩) m ic) rfl rfl (by kernel_rfl) (by kernel_rfl) (by kernel_rfl) (fun _ _ _ h => h) (by rfl) ?_ hHeld ?_
    · (intro w hSw; have hc9 := (HFV.out _ hSw).2.2.1; go_simp; try with_reducible rfl)
    simp only [Act.put, List.setIfInBounds_toArray, List.set_cons_zero, List.set_cons_succ]
    refine take_at (i := 13) 31 (v := .int .i64 (i : Int)) rfl rfl (by kernel_rfl) (by kernel_rfl) (by kernel_rfl) (fun _ _ _ h => h) (by rfl) ?_ hHeld ?_
    · (intro w hSw; have hc9 := (HFV.out _ hSw).1; go_simp; try with_reducible rfl)
    simp only [Act.put, List.setIfInBounds_toArray, List.set_cons_zero, List.set_cons_succ]
    refine take_at (i := 14) 32 (v := ?_) rfl rfl (by kernel_rfl) (by kernel_rfl) (by kernel_rfl) (fun _ _ _ h => h) (by rfl) ?_ hHeld ?_
    rotate_left
    · (intro w hSw; (try dsimp only at hSw); go_simp; try with_reducible rfl)
    simp only [Act.put, List.setIfInBounds_toArray, List.set_cons_zero, List.set_cons_succ]
    refine take_at (i := 15) 33 (v := ?_) rfl rfl (by kernel_rfl) (by kernel_rfl) (by kernel_rfl) (fun _ _ _ h => h) (by rfl) ?_ hHeld ?_
    rotate_left
    · (intro w hSw; (try dsimp only at hSw); go_simp; try with_reducible rfl)
    simp only [Act.put, List.setIfInBounds_toArray, List.set_cons_zero, List.set_cons_succ]
    refine take_at (i := 16) 34 (v := .int .u64 (t.n : Int)) rfl rfl (by kernel_rfl) (by kernel_rfl) (by kernel_rfl) (fun _ _ _ h => h) (by rfl) ?_ hHeld ?_
    · (intro w hSw; have hc9 := (HFV.out _ hSw).2.2.2.1; go_simp; try with_reducible rfl)
    simp only [Act.put, List.setIfInBounds_toArray, List.set_cons_zero, List.set_cons_succ]
    refine take_at (i := 17) 35 (v := .bool false) rfl rfl (by kernel_rfl) (by kernel_rfl) (by kernel_rfl) (fun _ _ _ h => h) (by rfl) ?_ hHeld ?_
    · (intro w hSw; go_simp; try omega)
    simp only [Act.put, List.setIfInBounds_toArray, List.set_cons_zero, List.set_cons_succ]
    refine take_at (i := 18) 36 (v := .bool false) rfl rfl (by kernel_rfl) (by kernel_rfl) (by kernel_rfl) (fun _ _ _ h => h) (by rfl) ?_ hHeld ?_
    · (intro w hSw; go_simp; try omega)
    simp only [Act.put, List.setIfInBounds_toArray, List.set_cons_zero, List.set_cons_succ]
    refine take_at (i := 19) 37 (v := .bool false) rfl rfl (by kernel_rfl) (by kernel_rfl) (by kernel_rfl) (fun _ _ _ h => h) (by rfl) ?_ hHeld ?_
    · (intro w hSw; go_simp; try omega)
    simp only [Act.put, List.setIfInBounds_toArray, List.set_cons_zero, List.set_cons_succ]
    refine take_at (i := 20) 38 (v := ?_) rfl rfl (by kernel_rfl) (by kernel_rfl) (by kernel_rfl) (fun _ _ _ h => h) (by rfl) ?_ hHeld ?_
    rotate_left
    · (intro w hSw; (try dsimp only at hSw); go_simp; try with_reducible rfl)
    simp only [Act.put, List.setIfInBounds_toArray, List.set_cons_zero, List.set_cons_succ]
    refine take_at (i := 21) 39 (v := .pointer (some ⟨kb, 0, none⟩)) rfl rfl (by kernel_rfl) (by kernel_rfl) (by kernel_rfl) (fun _ _ _ h => h) (by rfl) ?_ hHeld ?_
    · (intro w hSw; have hc9 := (HFV.out _ hSw).2.1; go_simp; try with_reducible rfl)
    simp only [Act.put, List.setIfInBounds_toArray, List.set_cons_zero, List.set_cons_succ]
    refine take_at (i := 22) 40 (v := ?_) rfl rfl (by kernel_rfl) (by kernel_rfl) (by kernel_rfl) (fun _ _ _ h => h) (by rfl) ?_ hHeld ?_
    rotate_left
    · (intro w hSw; (try dsimp only at hSw); go_simp; try with_reducible rfl)
    simp only [Act.put, List.setIfInBounds_toArray, List.set_cons_zero, List.set_cons_succ]
    refine take_at (i := 23) 41 (v := ?_) rfl rfl (by kernel_rfl) (by kernel_rfl) (by kernel_rfl) (fun _ _ _ h => h) (by rfl) ?_ hHeld ?_
    rotate_left
    · (intro w hSw; (try dsimp only at hSw); go_simp; try with_reducible rfl)
    simp only [Act.put, List.setIfInBounds_toArray, List.set_cons_zero, List.set_cons_succ]
    refine take_at (i := 24) 42 (v := .slice (some ⟨bi, oi, none⟩) m ic) rfl rfl (by kernel_rfl) (by kernel_rfl) (by kernel_rfl) (fun _ _ _ h => h) (by rfl) ?_ hHeld ?_
    · (intro w hSw; have hc9 := (HFV.out _ hSw).2.2.1; go_simp; try with_reducible rfl)
    simp only [Act.put, List.setIfInBounds_toArray, List.set_cons_zero, List.set_cons_succ]
    refine take_at (i := 25) 43 (v := .int .i64 (i : Int)) rfl rfl (by kernel_rfl) (by kernel_rfl) (by kernel_rfl) (fun _ _ _ h => h) (by rfl) ?_ hHeld ?_
    · (intro w hSw; have hc9 := (HFV.out _ hSw).1; go_simp; try with_reducible rfl)
    simp only [Act.put, List.setIfInBounds_toArray, List.set_cons_zero, List.set_cons_succ]
    refine take_at (i := 26) 44 (v := ?_) rfl rfl (by kernel_rfl) (by kernel_rfl) (by kernel_rfl) (fun _ _ _ h => h) (by rfl) ?_ hHeld ?_
    rotate_left
    · (intro w hSw; (try dsimp only at hSw); go_simp; try with_reducible rfl)
    simp only [Act.put, List.setIfInBounds_toArray, List.set_cons_zero, List.set_cons_succ]
    refine take_at (i := 27) 45 (v := ?_) rfl rfl (by kernel_rfl) (by kernel_rfl) (by kernel_rfl) (fun _ _ _ h => h) (by rfl) ?_ hHeld ?_
    rotate_left
    · (intro w hSw; (try dsimp only at hSw); go_simp; try with_reducible rfl)
    simp only [Act.put, List.setIfInBounds_toArray, List.set_cons_zero, List.set_cons_succ]
    refine take_at (i := 28) 46 (v := .slice za L zc) rfl rfl (by kernel_rfl) (by kernel_rfl) (by kernel_rfl) (fun _ _ _ h => h) (by rfl) ?_ hHeld ?_
    · (intro w hSw; have hc9 := (HFV.out _ hSw).2.2.2.2; go_simp; try with_reducible rfl)
    simp only [Act.put, List.setIfInBounds_toArray, List.set_cons_zero, List.set_cons_succ]
    refine run_at (i := 29) rfl (by kernel_rfl) (by rfl) (fun K hK => ?_)
    simp only [List.getElem_toArray, List.getElem_cons_zero, List.getElem_cons_succ]
    go_simp
    (go_at_call 28; refine Calls.mono (HBY.out _ HV0.out) ?_; rintro e u9 ⟨rfl, hq⟩; have HU9 : Hid (Below V.heap.size V u9) := below_next HV0.out hq; clear hq)
    go_wp2_with fail
    refine hK.out _ _ (by first | exact HV0.out | exact HU9.out | assumption) ?_
    clear hK K
    intro hHeld2
    clear hHeld
    have hHeld := hHeld2
    clear hHeld2
    try simp only [Act.put, List.setIfInBounds_toArray, List.set_cons_zero, List.set_cons_succ]
    refine take_at (i := 30) 48 (v := ?_) rfl rfl (by kernel_rfl) (by kernel_rfl) (by kernel_rfl) (fun _ _ _ h => h) (by rfl) ?_ hHeld ?_
    rotate_left
    · (intro w hSw; (try dsimp only at hSw); go_simp; try with_reducible rfl)
    simp only [Act.put, List.setIfInBounds_toArray, List.set_cons_zero, List.set_cons_succ]
    refine take_at (i := 31) 49 (v := ?_) rfl rfl (by kernel_rfl) (by kernel_rfl) (by kernel_rfl) (fun _ _ _ h => h) (by rfl) ?_ hHeld ?_
    rotate_left
    · (intro w hSw; (try dsimp only at hSw); go_simp; try with_reducible rfl)
    simp only [Act.put, List.setIfInBounds_toArray, List.set_cons_zero, List.set_cons_succ]
    refine wpAnyH_done (by kernel_rfl) ?_ _
    clear hefn hHeld
    have HSZ : Hid (B4 < u5.heap.size) := (Array.getElem?_eq_some_iff.1 HI5.out.b4).1
    have HIS : Hid (IsR w u5 u9 kb B1 B2 B3 B4 Z i us) := HI.out.below HU9.out
    have hcB : u9.cell? ⟨B4, 0, none⟩ = some (.int .i64 (us : Int)) := by rw [cell_of_row _ _ _ _ _ _ HIS.out.b4]; rfl
    have hfB := frz HIS.out.b4 0
    have HRB : Hid (∀ u : World, u.heap = u9.heap → u.cell? ⟨B4, 0, none⟩ = some (.int .i64 (us : Int))) := fun u hu => by rw [cell_of_row _ _ _ _ _ _ (by rw [hu]; exact HIS.out.b4)]; rfl
    gi_wp2
    refine wpIn_region_held_drew (S := (fun _ => True)) (by kernel_rfl) (by exact trivial) (by kernel_rfl) (fun ⟨_, _, h9⟩ => h9) (fun hHeld => ?_)
    refine take_at (i := 1) 51 (v := ?_) rfl rfl (by kernel_rfl) (by kernel_rfl) (by kernel_rfl) (fun _ _ _ h => h) (by rfl) ?_ hHeld ?_
    rotate_left
    · (intro w hSw; (try dsimp only at hSw); go_simp; try with_reducible rfl)
    simp only [Act.put, List.setIfInBounds_toArray, List.set_cons_zero, List.set_cons_succ]
    refine take_at (i := 2) 52 (v := ?_) rfl rfl (by kernel_rfl) (by kernel_rfl) (by kernel_rfl) (fun _ _ _ h => h) (by rfl) ?_ hHeld ?_
    rotate_left
    · (intro w hSw; (try dsimp only at hSw); go_simp; try with_reducible rfl)
    simp only [Act.put, List.setIfInBounds_toArray, List.set_cons_zero, List.set_cons_succ]
    refine wpAnyH_ready (rs := [0, 3]) (by kernel_rfl) (by simp) ?_
    refine AllReadyH.cons (o := _) rfl (fun K hK => ?_) ?_
    focus
      rw [if_pos (by rfl)]
      refine val_wp 50 (v := .int .i64 (us : Int)) rfl ?_ ?_
      · (go_simp; try with_reducible rfl)
      refine hK.out _ _ (by exact trivial) ?_
      clear hK K
      intro hHeld2
      clear hHeld
      have hHeld := hHeld2
      clear hHeld2
      simp only [Act.put, List.setIfInBounds_toArray, List.set_cons_zero, List.set_cons_succ]
      refine run_at (i := 3) rfl (by kernel_rfl) (by rfl) (fun K hK => ?_)
      simp only [List.getElem_toArray, List.getElem_cons_zero, List.getElem_cons_succ]
      go_simp
      (go_at_call 11; refine Calls.mono (HNE.out _) ?_; rintro e w' ⟨rfl, hq⟩; have hq := hq.symm; subst hq)
      go_wp2_with fail
      refine hK.out _ _ (by exact trivial) ?_
      clear hK K
      intro hHeld2
      clear hHeld
      have hHeld := hHeld2
      clear hHeld2
      try simp only [Act.put, List.setIfInBounds_toArray, List.set_cons_zero, List.set_cons_succ]
      refine take_at (i := 4) 54 (v := .int .i64 ((us + M : Nat) : Int)) rfl rfl (by kernel_rfl) (by kernel_rfl) (by kernel_rfl) (fun _ _ _ h => h) (by rfl) ?_ hHeld ?_
      · (intro w hSw; go_simp; try exact huw)
      simp only [Act.put, List.setIfInBounds_toArray, List.set_cons_zero, List.set_cons_succ]
      refine run_at (i := 5) rfl (by kernel_rfl) (by rfl) (fun K hK => ?_)
      simp only [List.getElem_toArray, List.getElem_cons_zero, List.getElem_cons_succ]
      go_simp
      go_wp2_with fail
      refine hK.out _ _ (by exact trivial) ?_
      clear hK K
      intro hHeld2
      clear hHeld
      have hHeld := hHeld2
      clear hHeld2
      try simp only [Act.put, List.setIfInBounds_toArray, List.set_cons_zero, List.set_cons_succ]
      refine wpAnyH_done (by kernel_rfl) ?_ _
    rotate_left 1
    refine AllReadyH.cons (o := _) rfl (fun K hK => ?_) AllReadyH.nil
    focus
      rw [if_pos (by rfl)]
      simp only [List.getElem_toArray, List.getElem_cons_zero, List.getElem_cons_succ]
      go_simp
      (go_at_call 11; refine Calls.mono (HNE.out _) ?_; rintro e w' ⟨rfl, hq⟩; have hq := hq.symm; subst hq)
      go_wp2_with fail
      refine hK.out _ _ (by exact trivial) ?_
      clear hK K
      intro hHeld2
      clear hHeld
      have hHeld := hHeld2
      clear hHeld2
      try simp only [Act.put, List.setIfInBounds_toArray, List.set_cons_zero, List.set_cons_succ]
      refine val_at (i := 0) 50 (v := .int .i64 (us : Int)) rfl rfl (by kernel_rfl) (by rfl) ?_ ?_ ?_
      · (go_simp; try with_reducible rfl)
      · (exact trivial)
      intro hHeld2
      clear hHeld
      have hHeld := hHeld2
      clear hHeld2
      simp only [Act.put, List.setIfInBounds_toArray, List.set_cons_zero, List.set_cons_succ]
      refine take_at (i := 4) 54 (v := .int .i64 ((us + M : Nat) : Int)) rfl rfl (by kernel_rfl) (by kernel_rfl) (by kernel_rfl) (fun _ _ _ h => h) (by rfl) ?_ hHeld ?_
      · (intro w hSw; go_simp; try exact huw)
      simp only [Act.put, List.setIfInBounds_toArray, List.set_cons_zero, List.set_cons_succ]
      refine run_at (i := 5) rfl (by kernel_rfl) (by rfl) (fun K hK => ?_)
      simp only [List.getElem_toArray, List.getElem_cons_zero, List.getElem_cons_succ]
      go_simp
      go_wp2_with fail
      refine hK.out _ _ (by exact trivial) ?_
      clear hK K
      intro hHeld2
      clear hHeld
      have hHeld := hHeld2
      clear hHeld2
      try simp only [Act.put, List.setIfInBounds_toArray, List.set_cons_zero, List.set_cons_succ]
      refine wpAnyH_done (by kernel_rfl) ?_ _
    all_goals (rw [show ((us : Int) + (M : Int)) = ((us + M : Nat) : Int) by omega])
    all_goals (obtain ⟨V2, hV2⟩ : ∃ V2, V2 = (u9.setCell ⟨B4, 0, none⟩ (.int .i64 ((us + M : Nat) : Int))).drew := ⟨_, rfl⟩)
    all_goals (rw [← hV2])
    all_goals (have hs2 := HIS.out.used HBN.out HSZ.out V2 hV2)
    all_goals (have hc3 : V2.cell? ⟨B3, 0, none⟩ = some (.int .i64 (i : Int)) := by rw [cell_of_row _ _ _ _ _ _ hs2.2.2.b3]; rfl)
    all_goals (have hf3 := frz hs2.2.2.b3 0)
    all_goals (have HS2 : Hid _ := hs2)
    all_goals (clear hs2 hcB hfB hV2 hHeld)
    all_goals gi_wp2
    all_goals (have hk := HI.out.kept HU9.out; have hn := HS2.out.2.2.next HBN.out HSZ.out _ rfl; exact ⟨hk.1.trans (HS2.out.1.trans hn.1), (hk.2.trans HS2.out.2.1).trans hn.2.1, by show IsR w u5 _ kb B1 B2 B3 B4 Z (pre ++ [_]).length (usedT T (pre ++ [_]).length); rw [List.length_append, HPL.out, show i + [(⟨t.n, ya, L, yc⟩ : Nb)].length = i + 1 from rfl, HUS.out]; exact hn.2.2⟩)
  case done =>
    rintro D xs Z V hD hS hI hK
    have hS : xs.length = R.length := hS
    have hTR : R.length = T.length := by rw [HR.out, List.length_map]
    obtain ⟨m, hm⟩ : ∃ m, m = T.length := ⟨_, rfl⟩
    have hxm : xs.length = m := by rw [hS, hTR, hm]
    rw [hxm] at hI
    obtain ⟨us, hus⟩ : ∃ us, us = usedT T m := ⟨_, rfl⟩
    rw [← hus] at hI
    have hall := usedT_all HLV.out.ch
    rw [← hm, ← hus] at hall
    have hAV := HA.out
    obtain ⟨-, ⟨ia, ic, N, hbx, -, hits, -, -, -⟩, -⟩ := hAV
    have hNm : N.length = m := by rw [hits.len, hm]
    rw [hNm] at hbx
    obtain ⟨f, hf⟩ : ∃ f, f = x.h.f := ⟨_, rfl⟩
    obtain ⟨ep, hep⟩ : ∃ ep, ep = x.h.e := ⟨_, rfl⟩
    obtain ⟨nx, hnxx⟩ : ∃ nx, nx = x.nx := ⟨_, rfl⟩
    obtain ⟨Zn, hZn⟩ : ∃ Zn, Zn = x.Z := ⟨_, rfl⟩
    obtain ⟨fr, hfr⟩ : ∃ fr, fr = x.free := ⟨_, rfl⟩
    have hfr2 : x.free = x.h.f + (x.Z - 2) - x.nx := rfl
    have hfit := HLV.out.fit
    have hAZ := HLV.out.AZ
    have hLN := HLV.out.N
    have hZ3 := HLV.out.Z
    have hnlt : nx < 281474976710656 := by omega
    have hw1 : IntKind.u64.wrap (us : Int) = (us : Int) := by rw [IntKind.wrap_u64]; omega
    have hw2 : IntKind.u64.wrap ((f : Int) + (us : Int)) = (nx : Int) := by rw [IntKind.wrap_u64]; omega
    have hw3 : IntKind.i64.wrap ((Zn : Int) - 2) = (Zn : Int) - 2 := by rw [IntKind.wrap_i64]; omega
    have hw4 : IntKind.i64.wrap ((Zn : Int) - 2 - (us : Int)) = (fr : Int) := by rw [IntKind.wrap_i64]; omega
    have hq0 : IsQ w V kb B1 B3 B4 m us := ⟨hI.b1, hI.b3, hI.b4, hI.bel⟩
    have HQ0 : Hid (IsQ w V.drew kb B1 B3 B4 m us) := hq0.drew
    have HLG : Hid (∀ u, IsQ w u kb B1 B3 B4 m us → LogX u g p x d n X) := fun u hu => (HA.out.below hu.bel).log
    have HFI : Hid (∀ u, IsQ w u kb B1 B3 B4 m us → Calls Tryd.prog 25 #[.pointer (some ⟨g, 0, none⟩)] u fun e w' => e = .returned (.int .u64 (f : Int)) ∧ w' = u) := fun u hu => by rw [hf]; exact (HLG.out u hu).first
    have HEP : Hid (∀ u, IsQ w u kb B1 B3 B4 m us → Calls Tryd.prog 27 #[.pointer (some ⟨g, 0, none⟩)] u fun e w' => e = .returned (.int .u64 (ep : Int)) ∧ w' = u) := fun u hu => by rw [hep]; exact (HLG.out u hu).epoch
    have HNX : Hid (∀ u, IsQ w u kb B1 B3 B4 m us → Calls Tryd.prog 26 #[.pointer (some ⟨g, 0, none⟩)] u fun e w' => e = .returned (.int .u64 (nx : Int)) ∧ w' = u) := fun u hu => by rw [hnxx]; exact (HLG.out u hu).next
    have HFR : Hid (∀ u, IsQ w u kb B1 B3 B4 m us → Calls Tryd.prog 12 #[.pointer (some ⟨g, 0, none⟩)] u fun e w' => e = .returned (.int .i64 (fr : Int)) ∧ Below u.heap.size u w') := fun u hu => by rw [hfr]; exact (HLG.out u hu).free HLV.out hnx
    have HFV : Hid (∀ u, IsQ w u kb B1 B3 B4 m us → u.cell? ⟨B3, 0, none⟩ = some (.int .i64 (m : Int)) ∧ u.cell? ⟨B4, 0, none⟩ = some (.int .i64 (us : Int)) ∧ u.cell? ⟨B1, 0, none⟩ = some (.pointer (some ⟨kb, 0, none⟩)) ∧ u.cell? ⟨kb, 1, none⟩ = some (.pointer (some ⟨g, 0, none⟩)) ∧ u.cell? ⟨kb, 2, none⟩ = some (.int .i64 (Zn : Int)) ∧ u.cell? ⟨kb, 3, none⟩ = some (.slice ia m ic) ∧ u.cell? ⟨kb, 5, none⟩ = some (.int .u64 (f : Int)) ∧ u.cell? ⟨kb, 7, none⟩ = some (.int .u64 (ep : Int))) := fun u hu => by
      obtain ⟨-, d1, d2, d3, -, d5, -, d7, -, -⟩ := cells11 (below_blk hu.bel hbx)
      refine ⟨?_, ?_, ?_, d1, ?_, d3, ?_, ?_⟩
      · rw [cell_of_row _ _ _ _ _ _ hu.b3]; rfl
      · rw [cell_of_row _ _ _ _ _ _ hu.b4]; rfl
      · rw [cell_of_row _ _ _ _ _ _ hu.b1]; rfl
      · rw [d2, hZn, HKF.out.size]
      · rw [d5, hf, HKF.out.fst]
      · rw [d7, hep, HKF.out.ep]
    have HB2 : Hid (V.heap[B2]? = some (.cells #[.bool false] 4 (0, 0))) := hI.b2
    have HKD : Hid (V.heap[D]? = some (.deferred (some []))) := hK
    have HD : Hid (w.heap.size ≤ D ∧ D ≠ B2) := ⟨by have := HWZ.out; omega, by have h1 := HBN.out; have h2 := (Array.getElem?_eq_some_iff.1 HI5.out.b4).1; omega⟩
    clear hS hTR hm hxm hI hus hall hbx hits hNm hf hep hnxx hZn hfr hfr2 hfit hAZ hLN hZ3 hnlt hq0 hK hefn
    subst hT0
    dsimp only
    go_upto_region 13 with fail
    refine wp_region_noPanic ?_
    refine wp_region_held_drew (S := (fun u => IsQ w u kb B1 B3 B4 m us)) (by kernel_rfl) (by first | exact HQ0.out | exact HQ8.out | exact (HQ8.out.set HBN.out _).drew | exact HQ8.out.set HBN.out _ | assumption) (fun hHeld => ?_)
    refine take_at (i := 0) 57 (v := .int .i64 (m : Int)) rfl rfl (by kernel_rfl) (by kernel_rfl) (by kernel_rfl) (fun _ _ _ h => h) (by rfl) ?_ hHeld ?_
    · (intro w hSw; have hc9 := (HFV.out _ hSw).1; go_simp; try with_reducible rfl)
    simp only [Act.put, List.setIfInBounds_toArray, List.set_cons_zero, List.set_cons_succ]
    refine take_at (i := 1) 58 (v := .pointer (some ⟨kb, 0, none⟩)) rfl rfl (by kernel_rfl) (by kernel_rfl) (by kernel_rfl) (fun _ _ _ h => h) (by rfl) ?_ hHeld ?_
    · (intro w hSw; have hc9 := (HFV.out _ hSw).2.2.1; go_simp; try with_reducible rfl)
    simp only [Act.put, List.setIfInBounds_toArray, List.set_cons_zero, List.set_cons_succ]
    refine take_at (i := 2) 59 (v := ?_) rfl rfl (by kernel_rfl) (by kernel_rfl) (by kernel_rfl) (fun _ _ _ h => h) (by rfl) ?_ hHeld ?_
    rotate_left
    · (intro w hSw; (try dsimp only at hSw); go_simp; try with_reducible rfl)
    simp only [Act.put, List.setIfInBounds_toArray, List.set_cons_zero, List.set_cons_succ]
    refine take_at (i := 3) 60 (v := ?_) rfl rfl (by kernel_rfl) (by kernel_rfl) (by kernel_rfl) (fun _ _ _ h => h) (by rfl) ?_ hHeld ?_
    rotate_left
    · (intro w hSw; (try dsimp only at hSw); go_simp; try with_reducible rfl)
    simp only [Act.put, List.setIfInBounds_toArray, List.set_cons_zero, List.set_cons_succ]
    refine take_at (i := 4) 61 (v := .slice ia m ic) rfl rfl (by kernel_rfl) (by kernel_rfl) (by kernel_rfl) (fun _ _ _ h => h) (by rfl) ?_ hHeld ?_
    · (intro w hSw; have hc9 := (HFV.out _ hSw).2.2.2.2.2.1; go_simp; try with_reducible rfl)
    simp only [Act.put, List.setIfInBounds_toArray, List.set_cons_zero, List.set_cons_succ]
    refine take_at (i := 5) 62 (v := ?_) rfl rfl (by kernel_rfl) (by kernel_rfl) (by kernel_rfl) (fun _ _ _ h => h) (by rfl) ?_ hHeld ?_
    rotate_left
    · (intro w hSw; (try dsimp only at hSw); go_simp; try with_reducible rfl)
    simp only [Act.put, List.setIfInBounds_toArray, List.set_cons_zero, List.set_cons_succ]
    refine take_at (i := 6) 63 (v := .bool true) rfl rfl (by kernel_rfl) (by kernel_rfl) (by kernel_rfl) (fun _ _ _ h => h) (by rfl) ?_ hHeld ?_
    · (intro w hSw; go_simp; try omega)
    simp only [Act.put, List.setIfInBounds_toArray, List.set_cons_zero, List.set_cons_succ]
    refine take_at (i := 7) 64 (v := .bool true) rfl rfl (by kernel_rfl) (by kernel_rfl) (by kernel_rfl) (fun _ _ _ h => h) (by rfl) ?_ hHeld ?_
    · (intro w hSw; go_simp; try omega)
    simp only [Act.put, List.setIfInBounds_toArray, List.set_cons_zero, List.set_cons_succ]
    refine take_at (i := 8) 65 (v := .pointer (some ⟨kb, 0, none⟩)) rfl rfl (by kernel_rfl) (by kernel_rfl) (by kernel_rfl) (fun _ _ _ h => h) (by rfl) ?_ hHeld ?_
    · (intro w hSw; have hc9 := (HFV.out _ hSw).2.2.1; go_simp; try with_reducible rfl)
    simp only [Act.put, List.setIfInBounds_toArray, List.set_cons_zero, List.set_cons_succ]
    refine take_at (i := 9) 66 (v := ?_) rfl rfl (by kernel_rfl) (by kernel_rfl) (by kernel_rfl) (fun _ _ _ h => h) (by rfl) ?_ hHeld ?_
    rotate_left
    · (intro w hSw; (try dsimp only at hSw); go_simp; try with_reducible rfl)
    simp only [Act.put, List.setIfInBounds_toArray, List.set_cons_zero, List.set_cons_succ]
    refine take_at (i := 10) 67 (v := ?_) rfl rfl (by kernel_rfl) (by kernel_rfl) (by kernel_rfl) (fun _ _ _ h => h) (by rfl) ?_ hHeld ?_
    rotate_left
    · (intro w hSw; (try dsimp only at hSw); go_simp; try with_reducible rfl)
    simp only [Act.put, List.setIfInBounds_toArray, List.set_cons_zero, List.set_cons_succ]
    refine take_at (i := 11) 68 (v := .pointer (some ⟨g, 0, none⟩)) rfl rfl (by kernel_rfl) (by kernel_rfl) (by kernel_rfl) (fun _ _ _ h => h) (by rfl) ?_ hHeld ?_
    · (intro w hSw; have hc9 := (HFV.out _ hSw).2.2.2.1; go_simp; try with_reducible rfl)
    simp only [Act.put, List.setIfInBounds_toArray, List.set_cons_zero, List.set_cons_succ]
    refine take_at (i := 13) 70 (v := .pointer (some ⟨kb, 0, none⟩)) rfl rfl (by kernel_rfl) (by kernel_rfl) (by kernel_rfl) (fun _ _ _ h => h) (by rfl) ?_ hHeld ?_
    · (intro w hSw; have hc9 := (HFV.out _ hSw).2.2.1; go_simp; try with_reducible rfl)
    simp only [Act.put, List.setIfInBounds_toArray, List.set_cons_zero, List.set_cons_succ]
    refine take_at (i := 14) 71 (v := ?_) rfl rfl (by kernel_rfl) (by kernel_rfl) (by kernel_rfl) (fun _ _ _ h => h) (by rfl) ?_ hHeld ?_
    rotate_left
    · (intro w hSw; (try dsimp only at hSw); go_simp; try with_reducible rfl)
    simp only [Act.put, List.setIfInBounds_toArray, List.set_cons_zero, List.set_cons_succ]
    refine take_at (i := 15) 72 (v := ?_) rfl rfl (by kernel_rfl) (by kernel_rfl) (by kernel_rfl) (fun _ _ _ h => h) (by rfl) ?_ hHeld ?_
    rotate_left
    · (intro w hSw; (try dsimp only at hSw); go_simp; try with_reducible rfl)
    simp only [Act.put, List.setIfInBounds_toArray, List.set_cons_zero, List.set_cons_succ]
    refine take_at (i := 16) 73 (v := .int .u64 (f : Int)) rfl rfl (by kernel_rfl) (by kernel_rfl) (by kernel_rfl) (fun _ _ _ h => h) (by rfl) ?_ hHeld ?_
    · (intro w hSw; have hc9 := (HFV.out _ hSw).2.2.2.2.2.2.1; go_simp; try with_reducible rfl)
    simp only [Act.put, List.setIfInBounds_toArray, List.set_cons_zero, List.set_cons_succ]
    refine run_at (i := 12) rfl (by kernel_rfl) (by rfl) (fun K hK => ?_)
    simp only [List.getElem_toArray, List.getElem_cons_zero, List.getElem_cons_succ]
    go_simp
    first | (go_at_call 25; refine Calls.mono (HFI.out _ HQ0.out) ?_; rintro e w' ⟨rfl, hq⟩; have hq := hq.symm; subst hq) | (go_at_call 27; refine Calls.mono (HEP.out _ HQ0.out) ?_; rintro e w' ⟨rfl, hq⟩; have hq := hq.symm; subst hq) | (go_at_call 26; refine Calls.mono (HNX.out _ HQ0.out) ?_; rintro e w' ⟨rfl, hq⟩; have hq := hq.symm; subst hq) | (go_at_call 12; refine Calls.mono (HFR.out _ HQ0.out) ?_; rintro e u9 ⟨rfl, hq⟩; have HQ8 : Hid (IsQ w u9 kb B1 B3 B4 m us) := HQ0.out.below hq; have HBW : Hid (Below V.drew.heap.size V.drew u9) := hq; have hb9 := below_blk hq (show V.drew.heap[B2]? = _ from HB2.out); have hcB : u9.cell? ⟨B2, 0, none⟩ = some (.bool false) := (by rw [cell_of_row _ _ _ _ _ _ hb9]; rfl); have hfB := frz hb9 0; have HB9 : Hid _ := hb9; clear hq hb9)
    go_wp2_with fail
    refine hK.out _ _ (by first | exact HQ0.out | exact HQ8.out | exact (HQ8.out.set HBN.out _).drew | exact HQ8.out.set HBN.out _ | assumption) ?_
    clear hK K
    intro hHeld2
    clear hHeld
    have hHeld := hHeld2
    clear hHeld2
    try simp only [Act.put, List.setIfInBounds_toArray, List.set_cons_zero, List.set_cons_succ]
    refine take_at (i := 17) 74 (v := .bool true) rfl rfl (by kernel_rfl) (by kernel_rfl) (by kernel_rfl) (fun _ _ _ h => h) (by rfl) ?_ hHeld ?_
    · (intro w hSw; go_simp; try omega)
    simp only [Act.put, List.setIfInBounds_toArray, List.set_cons_zero, List.set_cons_succ]
    refine take_at (i := 18) 75 (v := .bool true) rfl rfl (by kernel_rfl) (by kernel_rfl) (by kernel_rfl) (fun _ _ _ h => h) (by rfl) ?_ hHeld ?_
    · (intro w hSw; go_simp; try omega)
    simp only [Act.put, List.setIfInBounds_toArray, List.set_cons_zero, List.set_cons_succ]
    refine take_at (i := 19) 76 (v := .bool true) rfl rfl (by kernel_rfl) (by kernel_rfl) (by kernel_rfl) (fun _ _ _ h => h) (by rfl) ?_ hHeld ?_
    · (intro w hSw; go_simp; try omega)
    simp only [Act.put, List.setIfInBounds_toArray, List.set_cons_zero, List.set_cons_succ]
    refine take_at (i := 20) 77 (v := .pointer (some ⟨kb, 0, none⟩)) rfl rfl (by kernel_rfl) (by kernel_rfl) (by kernel_rfl) (fun _ _ _ h => h) (by rfl) ?_ hHeld ?_
    · (intro w hSw; have hc9 := (HFV.out _ hSw).2.2.1; go_simp; try with_reducible rfl)
    simp only [Act.put, List.setIfInBounds_toArray, List.set_cons_zero, List.set_cons_succ]
    refine take_at (i := 21) 78 (v := ?_) rfl rfl (by kernel_rfl) (by kernel_rfl) (by kernel_rfl) (fun _ _ _ h => h) (by rfl) ?_ hHeld ?_
    rotate_left
    · (intro w hSw; (try dsimp only at hSw); go_simp; try with_reducible rfl)
    simp only [Act.put, List.setIfInBounds_toArray, List.set_cons_zero, List.set_cons_succ]
    refine take_at (i := 22) 79 (v := ?_) rfl rfl (by kernel_rfl) (by kernel_rfl) (by kernel_rfl) (fun _ _ _ h => h) (by rfl) ?_ hHeld ?_
    rotate_left
    · (intro w hSw; (try dsimp only at hSw); go_simp; try with_reducible rfl)
    simp only [Act.put, List.setIfInBounds_toArray, List.set_cons_zero, List.set_cons_succ]
    refine take_at (i := 23) 80 (v := .pointer (some ⟨g, 0, none⟩)) rfl rfl (by kernel_rfl) (by kernel_rfl) (by kernel_rfl) (fun _ _ _ h => h) (by rfl) ?_ hHeld ?_
    · (intro w hSw; have hc9 := (HFV.out _ hSw).2.2.2.1; go_simp; try with_reducible rfl)
    simp only [Act.put, List.setIfInBounds_toArray, List.set_cons_zero, List.set_cons_succ]
    refine take_at (i := 25) 82 (v := .pointer (some ⟨kb, 0, none⟩)) rfl rfl (by kernel_rfl) (by kernel_rfl) (by kernel_rfl) (fun _ _ _ h => h) (by rfl) ?_ hHeld ?_
    · (intro w hSw; have hc9 := (HFV.out _ hSw).2.2.1; go_simp; try with_reducible rfl)
    simp only [Act.put, List.setIfInBounds_toArray, List.set_cons_zero, List.set_cons_succ]
    refine take_at (i := 26) 83 (v := ?_) rfl rfl (by kernel_rfl) (by kernel_rfl) (by kernel_rfl) (fun _ _ _ h => h) (by rfl) ?_ hHeld ?_
    rotate_left
    · (intro w hSw; (try dsimp only at hSw); go_simp; try with_reducible rfl)
    simp only [Act.put, List.setIfInBounds_toArray, List.set_cons_zero, List.set_cons_succ]
    refine take_at (i := 27) 84 (v := ?_) rfl rfl (by kernel_rfl) (by kernel_rfl) (by kernel_rfl) (fun _ _ _ h => h) (by rfl) ?_ hHeld ?_
    rotate_left
    · (intro w hSw; (try dsimp only at hSw); go_simp; try with_reducible rfl)
    simp only [Act.put, List.setIfInBounds_toArray, List.set_cons_zero, List.set_cons_succ]
    refine take_at (i := 28) 85 (v := .int .u64 (ep : Int)) rfl rfl (by kernel_rfl) (by kernel_rfl) (by kernel_rfl) (fun _ _ _ h => h) (by rfl) ?_ hHeld ?_
    · (intro w hSw; have hc9 := (HFV.out _ hSw).2.2.2.2.2.2.2; go_simp; try with_reducible rfl)
    simp only [Act.put, List.setIfInBounds_toArray, List.set_cons_zero, List.set_cons_succ]
    refine run_at (i := 24) rfl (by kernel_rfl) (by rfl) (fun K hK => ?_)
    simp only [List.getElem_toArray, List.getElem_cons_zero, List.getElem_cons_succ]
    go_simp
    first | (go_at_call 25; refine Calls.mono (HFI.out _ HQ0.out) ?_; rintro e w' ⟨rfl, hq⟩; have hq := hq.symm; subst hq) | (go_at_call 27; refine Calls.mono (HEP.out _ HQ0.out) ?_; rintro e w' ⟨rfl, hq⟩; have hq := hq.symm; subst hq) | (go_at_call 26; refine Calls.mono (HNX.out _ HQ0.out) ?_; rintro e w' ⟨rfl, hq⟩; have hq := hq.symm; subst hq) | (go_at_call 12; refine Calls.mono (HFR.out _ HQ0.out) ?_; rintro e u9 ⟨rfl, hq⟩; have HQ8 : Hid (IsQ w u9 kb B1 B3 B4 m us) := HQ0.out.below hq; have HBW : Hid (Below V.drew.heap.size V.drew u9) := hq; have hb9 := below_blk hq (show V.drew.heap[B2]? = _ from HB2.out); have hcB : u9.cell? ⟨B2, 0, none⟩ = some (.bool false) := (by rw [cell_of_row _ _ _ _ _ _ hb9]; rfl); have hfB := frz hb9 0; have HB9 : Hid _ := hb9; clear hq hb9)
    go_wp2_with fail
    refine hK.out _ _ (by first | exact HQ0.out | exact HQ8.out | exact (HQ8.out.set HBN.out _).drew | exact HQ8.out.set HBN.out _ | assumption) ?_
    clear hK K
    intro hHeld2
    clear hHeld
    have hHeld := hHeld2
    clear hHeld2
    try simp only [Act.put, List.setIfInBounds_toArray, List.set_cons_zero, List.set_cons_succ]
    refine take_at (i := 29) 86 (v := .bool true) rfl rfl (by kernel_rfl) (by kernel_rfl) (by kernel_rfl) (fun _ _ _ h => h) (by rfl) ?_ hHeld ?_
    · (intro w hSw; go_simp; try omega)
    simp only [Act.put, List.setIfInBounds_toArray, List.set_cons_zero, List.set_cons_succ]
    refine take_at (i := 30) 87 (v := .bool true) rfl rfl (by kernel_rfl) (by kernel_rfl) (by kernel_rfl) (fun _ _ _ h => h) (by rfl) ?_ hHeld ?_
    · (intro w hSw; go_simp; try omega)
    simp only [Act.put, List.setIfInBounds_toArray, List.set_cons_zero, List.set_cons_succ]
    refine take_at (i := 31) 88 (v := .bool true) rfl rfl (by kernel_rfl) (by kernel_rfl) (by kernel_rfl) (fun _ _ _ h => h) (by rfl) ?_ hHeld ?_
    · (intro w hSw; go_simp; try omega)
    simp only [Act.put, List.setIfInBounds_toArray, List.set_cons_zero, List.set_cons_succ]
    refine take_at (i := 32) 89 (v := .pointer (some ⟨kb, 0, none⟩)) rfl rfl (by kernel_rfl) (by kernel_rfl) (by kernel_rfl) (fun _ _ _ h => h) (by rfl) ?_ hHeld ?_
    · (intro w hSw; have hc9 := (HFV.out _ hSw).2.2.1; go_simp; try with_reducible rfl)
    simp only [Act.put, List.setIfInBounds_toArray, List.set_cons_zero, List.set_cons_succ]
    refine take_at (i := 33) 90 (v := ?_) rfl rfl (by kernel_rfl) (by kernel_rfl) (by kernel_rfl) (fun _ _ _ h => h) (by rfl) ?_ hHeld ?_
    rotate_left
    · (intro w hSw; (try dsimp only at hSw); go_simp; try with_reducible rfl)
    simp only [Act.put, List.setIfInBounds_toArray, List.set_cons_zero, List.set_cons_succ]
    refine take_at (i := 34) 91 (v := ?_) rfl rfl (by kernel_rfl) (by kernel_rfl) (by kernel_rfl) (fun _ _ _ h => h) (by rfl) ?_ hHeld ?_
    rotate_left
    · (intro w hSw; (try dsimp only at hSw); go_simp; try with_reducible rfl)
    simp only [Act.put, List.setIfInBounds_toArray, List.set_cons_zero, List.set_cons_succ]
    refine take_at (i := 35) 92 (v := .pointer (some ⟨g, 0, none⟩)) rfl rfl (by kernel_rfl) (by kernel_rfl) (by kernel_rfl) (fun _ _ _ h => h) (by rfl) ?_ hHeld ?_
    · (intro w hSw; have hc9 := (HFV.out _ hSw).2.2.2.1; go_simp; try with_reducible rfl)
    simp only [Act.put, List.setIfInBounds_toArray, List.set_cons_zero, List.set_cons_succ]
    refine take_at (i := 37) 94 (v := .pointer (some ⟨kb, 0, none⟩)) rfl rfl (by kernel_rfl) (by kernel_rfl) (by kernel_rfl) (fun _ _ _ h => h) (by rfl) ?_ hHeld ?_
    · (intro w hSw; have hc9 := (HFV.out _ hSw).2.2.1; go_simp; try with_reducible rfl)
    simp only [Act.put, List.setIfInBounds_toArray, List.set_cons_zero, List.set_cons_succ]
    refine take_at (i := 38) 95 (v := ?_) rfl rfl (by kernel_rfl) (by kernel_rfl) (by kernel_rfl) (fun _ _ _ h => h) (by rfl) ?_ hHeld ?_
    rotate_left
    · (intro w hSw; (try dsimp only at hSw); go_simp; try with_reducible rfl)
    simp only [Act.put, List.setIfInBounds_toArray, List.set_cons_zero, List.set_cons_succ]
    refine take_at (i := 39) 96 (v := ?_) rfl rfl (by kernel_rfl) (by kernel_rfl) (by kernel_rfl) (fun _ _ _ h => h) (by rfl) ?_ hHeld ?_
    rotate_left
    · (intro w hSw; (try dsimp only at hSw); go_simp; try with_reducible rfl)
    simp only [Act.put, List.setIfInBounds_toArray, List.set_cons_zero, List.set_cons_succ]
    refine take_at (i := 40) 97 (v := .int .u64 (f : Int)) rfl rfl (by kernel_rfl) (by kernel_rfl) (by kernel_rfl) (fun _ _ _ h => h) (by rfl) ?_ hHeld ?_
    · (intro w hSw; have hc9 := (HFV.out _ hSw).2.2.2.2.2.2.1; go_simp; try with_reducible rfl)
    simp only [Act.put, List.setIfInBounds_toArray, List.set_cons_zero, List.set_cons_succ]
    refine take_at (i := 41) 98 (v := .int .i64 (us : Int)) rfl rfl (by kernel_rfl) (by kernel_rfl) (by kernel_rfl) (fun _ _ _ h => h) (by rfl) ?_ hHeld ?_
    · (intro w hSw; have hc9 := (HFV.out _ hSw).2.1; go_simp; try with_reducible rfl)
    simp only [Act.put, List.setIfInBounds_toArray, List.set_cons_zero, List.set_cons_succ]
    refine take_at (i := 42) 99 (v := .int .u64 (us : Int)) rfl rfl (by kernel_rfl) (by kernel_rfl) (by kernel_rfl) (fun _ _ _ h => h) (by rfl) ?_ hHeld ?_
    · (intro w hSw; go_simp; try exact hw1)
    simp only [Act.put, List.setIfInBounds_toArray, List.set_cons_zero, List.set_cons_succ]
    refine take_at (i := 43) 100 (v := .int .u64 (nx : Int)) rfl rfl (by kernel_rfl) (by kernel_rfl) (by kernel_rfl) (fun _ _ _ h => h) (by rfl) ?_ hHeld ?_
    · (intro w hSw; go_simp; try exact hw2)
    simp only [Act.put, List.setIfInBounds_toArray, List.set_cons_zero, List.set_cons_succ]
    refine run_at (i := 36) rfl (by kernel_rfl) (by rfl) (fun K hK => ?_)
    simp only [List.getElem_toArray, List.getElem_cons_zero, List.getElem_cons_succ]
    go_simp
    first | (go_at_call 25; refine Calls.mono (HFI.out _ HQ0.out) ?_; rintro e w' ⟨rfl, hq⟩; have hq := hq.symm; subst hq) | (go_at_call 27; refine Calls.mono (HEP.out _ HQ0.out) ?_; rintro e w' ⟨rfl, hq⟩; have hq := hq.symm; subst hq) | (go_at_call 26; refine Calls.mono (HNX.out _ HQ0.out) ?_; rintro e w' ⟨rfl, hq⟩; have hq := hq.symm; subst hq) | (go_at_call 12; refine Calls.mono (HFR.out _ HQ0.out) ?_; rintro e u9 ⟨rfl, hq⟩; have HQ8 : Hid (IsQ w u9 kb B1 B3 B4 m us) := HQ0.out.below hq; have HBW : Hid (Below V.drew.heap.size V.drew u9) := hq; have hb9 := below_blk hq (show V.drew.heap[B2]? = _ from HB2.out); have hcB : u9.cell? ⟨B2, 0, none⟩ = some (.bool false) := (by rw [cell_of_row _ _ _ _ _ _ hb9]; rfl); have hfB := frz hb9 0; have HB9 : Hid _ := hb9; clear hq hb9)
    go_wp2_with fail
    refine hK.out _ _ (by first | exact HQ0.out | exact HQ8.out | exact (HQ8.out.set HBN.out _).drew | exact HQ8.out.set HBN.out _ | assumption) ?_
    clear hK K
    intro hHeld2
    clear hHeld
    have hHeld := hHeld2
    clear hHeld2
    try simp only [Act.put, List.setIfInBounds_toArray, List.set_cons_zero, List.set_cons_succ]
    refine take_at (i := 44) 101 (v := .bool true) rfl rfl (by kernel_rfl) (by kernel_rfl) (by kernel_rfl) (fun _ _ _ h => h) (by rfl) ?_ hHeld ?_
    · (intro w hSw; go_simp; try omega)
    simp only [Act.put, List.setIfInBounds_toArray, List.set_cons_zero, List.set_cons_succ]
    refine take_at (i := 45) 102 (v := .bool true) rfl rfl (by kernel_rfl) (by kernel_rfl) (by kernel_rfl) (fun _ _ _ h => h) (by rfl) ?_ hHeld ?_
    · (intro w hSw; go_simp; try omega)
    simp only [Act.put, List.setIfInBounds_toArray, List.set_cons_zero, List.set_cons_succ]
    refine take_at (i := 46) 103 (v := .bool true) rfl rfl (by kernel_rfl) (by kernel_rfl) (by kernel_rfl) (fun _ _ _ h => h) (by rfl) ?_ hHeld ?_
    · (intro w hSw; go_simp; try omega)
    simp only [Act.put, List.setIfInBounds_toArray, List.set_cons_zero, List.set_cons_succ]
    refine take_at (i := 47) 104 (v := .pointer (some ⟨kb, 0, none⟩)) rfl rfl (by kernel_rfl) (by kernel_rfl) (by kernel_rfl) (fun _ _ _ h => h) (by rfl) ?_ hHeld ?_
    · (intro w hSw; have hc9 := (HFV.out _ hSw).2.2.1; go_simp; try with_reducible rfl)
    simp only [Act.put, List.setIfInBounds_toArray, List.set_cons_zero, List.set_cons_succ]
    refine take_at (i := 48) 105 (v := ?_) rfl rfl (by kernel_rfl) (by kernel_rfl) (by kernel_rfl) (fun _ _ _ h => h) (by rfl) ?_ hHeld ?_
    rotate_left
    · (intro w hSw; (try dsimp only at hSw); go_simp; try with_reducible rfl)
    simp only [Act.put, List.setIfInBounds_toArray, List.set_cons_zero, List.set_cons_succ]
    refine take_at (i := 49) 106 (v := ?_) rfl rfl (by kernel_rfl) (by kernel_rfl) (by kernel_rfl) (fun _ _ _ h => h) (by rfl) ?_ hHeld ?_
    rotate_left
    · (intro w hSw; (try dsimp only at hSw); go_simp; try with_reducible rfl)
    simp only [Act.put, List.setIfInBounds_toArray, List.set_cons_zero, List.set_cons_succ]
    refine take_at (i := 50) 107 (v := .pointer (some ⟨g, 0, none⟩)) rfl rfl (by kernel_rfl) (by kernel_rfl) (by kernel_rfl) (fun _ _ _ h => h) (by rfl) ?_ hHeld ?_
    · (intro w hSw; have hc9 := (HFV.out _ hSw).2.2.2.1; go_simp; try with_reducible rfl)
    simp only [Act.put, List.setIfInBounds_toArray, List.set_cons_zero, List.set_cons_succ]
    refine take_at (i := 52) 109 (v := .pointer (some ⟨kb, 0, none⟩)) rfl rfl (by kernel_rfl) (by kernel_rfl) (by kernel_rfl) (fun _ _ _ h => h) (by rfl) ?_ hHeld ?_
    · (intro w hSw; have hc9 := (HFV.out _ hSw).2.2.1; go_simp; try with_reducible rfl)
    simp only [Act.put, List.setIfInBounds_toArray, List.set_cons_zero, List.set_cons_succ]
    refine take_at (i := 53) 110 (v := ?_) rfl rfl (by kernel_rfl) (by kernel_rfl) (by kernel_rfl) (fun _ _ _ h => h) (by rfl) ?_ hHeld ?_
    rotate_left
    · (intro w hSw; (try dsimp only at hSw); go_simp; try with_reducible rfl)
    simp only [Act.put, List.setIfInBounds_toArray, List.set_cons_zero, List.set_cons_succ]
    refine take_at (i := 54) 111 (v := ?_) rfl rfl (by kernel_rfl) (by kernel_rfl) (by kernel_rfl) (fun _ _ _ h => h) (by rfl) ?_ hHeld ?_
    rotate_left
    · (intro w hSw; (try dsimp only at hSw); go_simp; try with_reducible rfl)
    simp only [Act.put, List.setIfInBounds_toArray, List.set_cons_zero, List.set_cons_succ]
    refine take_at (i := 55) 112 (v := .int .i64 (Zn : Int)) rfl rfl (by kernel_rfl) (by kernel_rfl) (by kernel_rfl) (fun _ _ _ h => h) (by rfl) ?_ hHeld ?_
    · (intro w hSw; have hc9 := (HFV.out _ hSw).2.2.2.2.1; go_simp; try with_reducible rfl)
    simp only [Act.put, List.setIfInBounds_toArray, List.set_cons_zero, List.set_cons_succ]
    refine take_at (i := 56) 113 (v := .int .i64 ((Zn : Int) - 2)) rfl rfl (by kernel_rfl) (by kernel_rfl) (by kernel_rfl) (fun _ _ _ h => h) (by rfl) ?_ hHeld ?_
    · (intro w hSw; go_simp; try exact hw3)
    simp only [Act.put, List.setIfInBounds_toArray, List.set_cons_zero, List.set_cons_succ]
    refine take_at (i := 57) 114 (v := .int .i64 (us : Int)) rfl rfl (by kernel_rfl) (by kernel_rfl) (by kernel_rfl) (fun _ _ _ h => h) (by rfl) ?_ hHeld ?_
    · (intro w hSw; have hc9 := (HFV.out _ hSw).2.1; go_simp; try with_reducible rfl)
    simp only [Act.put, List.setIfInBounds_toArray, List.set_cons_zero, List.set_cons_succ]
    refine take_at (i := 58) 115 (v := .int .i64 (fr : Int)) rfl rfl (by kernel_rfl) (by kernel_rfl) (by kernel_rfl) (fun _ _ _ h => h) (by rfl) ?_ hHeld ?_
    · (intro w hSw; go_simp; try exact hw4)
    simp only [Act.put, List.setIfInBounds_toArray, List.set_cons_zero, List.set_cons_succ]
    refine run_at (i := 51) rfl (by kernel_rfl) (by rfl) (fun K hK => ?_)
    simp only [List.getElem_toArray, List.getElem_cons_zero, List.getElem_cons_succ]
    go_simp
    first | (go_at_call 25; refine Calls.mono (HFI.out _ HQ0.out) ?_; rintro e w' ⟨rfl, hq⟩; have hq := hq.symm; subst hq) | (go_at_call 27; refine Calls.mono (HEP.out _ HQ0.out) ?_; rintro e w' ⟨rfl, hq⟩; have hq := hq.symm; subst hq) | (go_at_call 26; refine Calls.mono (HNX.out _ HQ0.out) ?_; rintro e w' ⟨rfl, hq⟩; have hq := hq.symm; subst hq) | (go_at_call 12; refine Calls.mono (HFR.out _ HQ0.out) ?_; rintro e u9 ⟨rfl, hq⟩; have HQ8 : Hid (IsQ w u9 kb B1 B3 B4 m us) := HQ0.out.below hq; have HBW : Hid (Below V.drew.heap.size V.drew u9) := hq; have hb9 := below_blk hq (show V.drew.heap[B2]? = _ from HB2.out); have hcB : u9.cell? ⟨B2, 0, none⟩ = some (.bool false) := (by rw [cell_of_row _ _ _ _ _ _ hb9]; rfl); have hfB := frz hb9 0; have HB9 : Hid _ := hb9; clear hq hb9)
    go_wp2_with fail
    refine hK.out _ _ (by first | exact HQ0.out | exact HQ8.out | exact (HQ8.out.set HBN.out _).drew | exact HQ8.out.set HBN.out _ | assumption) ?_
    clear hK K
    intro hHeld2
    clear hHeld
    have hHeld := hHeld2
    clear hHeld2
    try simp only [Act.put, List.setIfInBounds_toArray, List.set_cons_zero, List.set_cons_succ]
    refine take_at (i := 59) 116 (v := .bool true) rfl rfl (by kernel_rfl) (by kernel_rfl) (by kernel_rfl) (fun _ _ _ h => h) (by rfl) ?_ hHeld ?_
    · (intro w hSw; go_simp; try omega)
    simp only [Act.put, List.setIfInBounds_toArray, List.set_cons_zero, List.set_cons_succ]
    refine take_at (i := 60) 117 (v := .bool true) rfl rfl (by kernel_rfl) (by kernel_rfl) (by kernel_rfl) (fun _ _ _ h => h) (by rfl) ?_ hHeld ?_
    · (intro w hSw; go_simp; try omega)
    simp only [Act.put, List.setIfInBounds_toArray, List.set_cons_zero, List.set_cons_succ]
    refine run_at (i := 61) rfl (by kernel_rfl) (by rfl) (fun K hK => ?_)
    simp only [List.getElem_toArray, List.getElem_cons_zero, List.getElem_cons_succ]
    go_simp
    go_wp2_with fail
    refine hK.out _ _ (by first | exact HQ0.out | exact HQ8.out | exact (HQ8.out.set HBN.out _).drew | exact HQ8.out.set HBN.out _ | assumption) ?_
    clear hK K
    intro hHeld2
    clear hHeld
    have hHeld := hHeld2
    clear hHeld2
    try simp only [Act.put, List.setIfInBounds_toArray, List.set_cons_zero, List.set_cons_succ]
    refine wpAnyH_done (by kernel_rfl) ?_ _
    refine NoPanic.normal ?_
    have HEND : Hid (∀ Y, Y = u9.setCell ⟨B2, 0, none⟩ (.bool true) → Y.heap[B2]? = some (.cells #[.bool true] 4 (0, 0)) ∧ Y.heap[D]? = some (.deferred (some [])) ∧ Below w.heap.size w Y) := fun Y hY => by
      refine ⟨?_, ?_, ?_⟩
      · rw [hY, heap_setCell_same u9 B2 0 _ _ _ HB9.out]; rfl
      · rw [hY, heap_setCell_other u9 ⟨B2, 0, none⟩ D _ (by simpa using HD.out.2)]
        exact below_blk HBW.out (show V.drew.heap[D]? = _ from HKD.out)
      · rw [hY]; exact HQ8.out.bel.setCell (p := ⟨B2, 0, none⟩) (by show w.heap.size ≤ B2; have := HBN.out; omega) _
    clear hHeld hcB hfB
    go_wp2
    refine ⟨by simp, .inl ⟨_, _, rfl, run_takeDeferred (HEND.out _ rfl).2.1, ?_⟩⟩
    refine ⟨_, results_cb rfl _ ((World.putObj_heap_other (fun e => HD.out.2 e.symm)).trans (HEND.out _ rfl).1) rfl, rfl, ?_⟩
    have hb := (HEND.out _ rfl).2.2
    exact ⟨hb.os, hb.tape, hb.output, by simpa using hb.size, fun j hj => (World.putObj_heap_other (by have := HD.out.1; omega)).trans (hb.block j hj)⟩
  case stop =>
    rintro D c pre Z V hD hpre hno hK
    exact hno.elim
end Go.Proofs.YtibepnilhmbpeaaDoor
namespace Go.Proofs.YtibepnilhmbpeaaDoor
set_option linter.unusedVariables false
set_option linter.unusedSimpArgs false
open Go.RowKit
section
variable {w w' : World} {g p n : Nat} {x : Lg} {d : Dst} {X : Nat → Prop} {T : List Itm}
theorem Liv.newOk (h : Liv d x T) (k : Nat) (hk : k ≤ T.length) (hg : x.h.g + 1 < 281474976710656) (hn : x.nx < 281474976710656) : (x.newH x.h.e (numAt T x.nx k)).ok := by
  have hep := h.ep
  have hle : numAt T x.nx k ≤ x.nx := (h.ch.drop k).le.1
  refine ⟨by show x.h.g + 1 < _; omega, by show x.h.e < _; omega, by show numAt T x.nx k < _; omega, ?_⟩
  show (match x.L[cntB x.L (numAt T x.nx k)]? with | none => x.h.e | some s => if s.n = numAt T x.nx k then s.e else x.h.e) < _
  split
  · omega
  · rename_i s hs
    split
    · have hm := List.mem_of_getElem? hs
      rw [h.L] at hm
      obtain ⟨t, ht, rfl⟩ := List.mem_map.1 hm
      have := (h.ok t ht).2
      show t.e < _
      omega
    · omega
/-- Trim to a start, or to the end -/
theorem LogX.trim (h : LogX w g p x d n X) (hl : Liv d x T) (k : Nat) (hk : k ≤ T.length) (hgo : x.h.f < numAt T x.nx k) (hg : x.h.g + 1 < 281474976710655) (hn : n + 1 < 1099511627776) (hnx : x.nx < 281474976710655) :
    Calls Tryd.prog 24 #[.pointer (some ⟨g, 0, none⟩), .int .u64 (numAt T x.nx k : Int)] w fun e w' => e = .returned (.int .i64 0) ∧ LogO w g p X (x.begun x.h.e (numAt T x.nx k)) (runO d (hdO x.A x.Z (x.newH x.h.e (numAt T x.nx k)))).1 (n + 1) w' := by
  obtain ⟨⟨sa, sc, F, h1, h2, h3, h4, h5⟩, h6⟩ := h
  have hr := (hl.trim k hk (by omega) (by omega)).1
  have hle : numAt T x.nx k ≤ x.nx := (hl.ch.drop k).le.1
  have hok := hl.newOk k hk (by omega) (by omega)
  have fin : ∀ (e : Ending) (w' : World), (e = .returned (.int .i64 (opE (runO d (hdO x.A x.Z (x.newH x.h.e (numAt T x.nx k)))).2)) ∧ ∃ u, Below w.heap.size w u ∧ BgOut u g p x sa sc x.h.e (numAt T x.nx k) d n F w') → e = .returned (.int .i64 0) ∧ LogO w g p X (x.begun x.h.e (numAt T x.nx k)) (runO d (hdO x.A x.Z (x.newH x.h.e (numAt T x.nx k)))).1 (n + 1) w' := by
    rintro e w' ⟨rfl, u, hu, hb⟩
    obtain ⟨sa', sc', F', r1, r2, r3, r4⟩ := hb.logm (h1.below hu)
    have e1 : x.bgn d x.h.e (numAt T x.nx k) = x.begun x.h.e (numAt T x.nx k) := by unfold Lg.bgn; rw [if_pos hr.ok]
    rw [e1] at r1
    have ho := LogX.out (h1.below hu) h2 h3 h4 h5 r1 r2 (fun a e => .inl (r3 a e)) (r4.mono (fun b hb => hb.elim .inl (fun e => .inr (.inl e)))) (fun b hb => Nat.lt_of_lt_of_le (h6 b hb) hu.size)
    refine ⟨by rw [hr.ok]; rfl, ?_⟩
    obtain ⟨X', q1, q2⟩ := ho.ex
    exact ⟨⟨X', q1, fun b hb => (q2 b hb).imp id (fun h9 => Nat.le_trans hu.size h9)⟩, (Chg.of_below hu).trans ho.chg (fun i h => .inl h), ho.sm.trans (hu.block _ (h6 _ h5))⟩
  cases ht : T[k]? with
  | none =>
    have hx : numAt T x.nx k = x.nx := by unfold numAt; rw [ht]
    refine Calls.mono (strim_go_at g p x sa sc d n F w h1.s _ hl.fl hl.pw.on (by omega) ?_ hx (by omega) (by omega) hok hn) fin
    rw [hx]
    show bsF x.L x.nx _ = false
    unfold bsF
    split
    · rfl
    · rename_i s hs
      have := hl.slt s (List.mem_of_getElem? hs)
      exact decide_eq_false (by omega)
  | some t =>
    have hx : numAt T x.nx k = t.n := by unfold numAt; rw [ht]
    refine Calls.mono (strim_go_in g p x sa sc d n F w h1.s _ hl.fl hl.pw.on (by omega) ?_ (by omega) (by omega) hok hn) fin
    show bsF x.L _ (cntB x.L _) = true
    rw [hl.cnt k hk]
    unfold bsF
    rw [hl.L, List.getElem?_map, ht, hx]
    exact decide_eq_true rfl
end
/-- a row of items from its place i on -/
theorem dropI {w : World} {sa : Option Addr} {sc i : Nat} {L : List Nb} (h : RdG KI w sa L) (hsc : L.length ≤ sc) : RdG KI w (SB sa sc i) (L.drop i) := by
  intro j hj
  have hj2 : j < L.length - i := by rw [List.length_drop] at hj; exact hj
  obtain ⟨b, o, rfl, h1, cur, fr, h2⟩ := h (i + j) (by omega)
  refine ⟨b, o + i * 2, ?_, ?_, cur, fr, h2⟩
  · unfold SB; rw [if_neg (by omega)]; show some (Addr.add ⟨b, o, none⟩ (i * 2)) = _; rw [Addr.add_mid]
  · have e : (L.drop i)[j] = L[i + j]'(by omega) := List.getElem_drop ..
    rw [e]
    intro q v hv
    have h9 := h1 q v hv
    have e2 : o + i * 2 + j * KI.k + q = o + (i + j) * KI.k + q := by show o + i * 2 + j * 2 + q = o + (i + j) * 2 + q; omega
    rw [e2]; exact h9
theorem MidG.dropI {w : World} {sa : Option Addr} {sc i : Nat} {L : List Nb} (h : MidG KI w (.slice sa L.length sc) L) (hi : i ≤ L.length) : MidG KI w (.slice (SB sa sc i) (L.drop i).length (sc - i)) (L.drop i) := by
  rcases h.ex with ⟨a, e, rfl⟩ | ⟨g, o, c, cur, e, hg, h1, h2, h3, h4⟩
  · injection e with e1 e2 e3
    subst e3
    obtain rfl : i = 0 := by simpa using hi
    refine ⟨fun b hb => ?_, .inl ⟨sa, by simp [SB], rfl⟩⟩
    have e9 : SB sa 0 0 = sa := by simp [SB]
    rw [e9] at hb
    refine h.blk b (Eq.trans ?_ hb)
    cases sa <;> rfl
  · injection e with e1 e2 e3
    subst e1
    subst e3
    have hblk : ∀ m c9 b, (Value.slice (SB (some ⟨g, o, none⟩) sc i) m c9).ownBlock = some b → ∃ cur, w.heap[b]? = some (.cells cur KI.t (0, 0)) := fun m c9 b hb => by
      have e9 : SB (some ⟨g, o, none⟩) sc i = some ⟨g, o, none⟩ ∨ SB (some ⟨g, o, none⟩) sc i = some ⟨g, o + i * 2, none⟩ := by
        unfold SB
        split
        · exact .inl rfl
        · right; show some (Addr.add ⟨g, o, none⟩ (i * 2)) = _; rw [Addr.add_mid]
      rcases e9 with e9 | e9
      · rw [e9] at hb; cases hb; exact ⟨cur, hg⟩
      · rw [e9] at hb; cases hb; exact ⟨cur, hg⟩
    by_cases hc : sc = i
    · have hL0 : L.drop i = [] := List.drop_eq_nil_of_le (by omega)
      refine ⟨hblk _ _, .inl ⟨some ⟨g, o, none⟩, ?_, hL0⟩⟩
      rw [hL0]
      unfold SB
      rw [if_pos hc, hc, Nat.sub_self]
      rfl
    · refine ⟨hblk _ _, .inr ⟨g, o + i * 2, sc - i, cur, ?_, hg, ?_, ?_, by omega, ?_⟩⟩
      · unfold SB; rw [if_neg hc]; show Value.slice (some (Addr.add ⟨g, o, none⟩ (i * 2))) _ _ = _; rw [Addr.add_mid]
      · show o + i * 2 + (sc - i) * 2 ≤ _
        have h1' : o + sc * 2 ≤ cur.size := h1
        omega
      · rw [List.length_drop]; omega
      · have h9 := Go.Proofs.YtibepnilhmbpeaaDoor.dropI (i := i) (sc := sc) h4 (by omega)
        unfold SB at h9
        rw [if_neg hc] at h9
        have e : Option.map (fun a : Addr => a.add (i * 2)) (some ⟨g, o, none⟩) = some ⟨g, o + i * 2, none⟩ := by show some (Addr.add ⟨g, o, none⟩ (i * 2)) = _; rw [Addr.add_mid]
        rw [e] at h9
        exact h9
end Go.Proofs.YtibepnilhmbpeaaDoor
