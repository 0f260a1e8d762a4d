import Derived.Test.YtibepnilhmbpeaaDoorSRe
import Derived.Deep.MidRow
import Derived.Deep.WholeRow
import Derived.Laws.CopyOwn
import Derived.OwnWalk
import Derived.Laws.MakeOwn
import Derived.Deep.AppendLies
import Derived.Laws.AppendOwnNone
import Derived.Lib.AppendZeros
import Derived.Lib.AppendZerosOnto
import Derived.Lib.Overlaps
import Derived.Lib.SliceRun
namespace Go.Proofs.YtibepnilhmbpeaaDoor
set_option linter.unusedVariables false
set_option linter.unusedSimpArgs false
open Go.RowKit
/-- a kind of rows: its element's type, its own, an element's cells -/
structure Kd (α : Type) where
  t : TypeId
  ts : TypeId
  k : Nat
  by_ : Nat
  f : α → List Value
  z : Value
  hk : ∀ x, (f x).length = k
  h1 : ∀ x, ∀ u ∈ f x, u.oneCell' = true
  hpos : 0 < k
  ht : Tryd.prog.underlying ts = some (.slice t)
  hi : (Tryd.prog.info? t).map (fun i => (i.zero, i.size, i.bytes)) = some (some z, k, by_)
  hz : z.cells.size = k
section
variable {α : Type} (K : Kd α)
def RdG (w : World) (ao : Option Addr) (xs : List α) : Prop := ∀ j (hj : j < xs.length), ∃ b o, ao = some ⟨b, o, none⟩ ∧ w.rangeAt b (o + j * K.k) (K.f xs[j]) ∧ ∃ cur fr, w.heap[b]? = some (.cells cur K.t fr)
def Kd.flat (xs : List α) : List Value := xs.flatMap K.f
def OwnG (w : World) (B : Nat) (v : Value) (xs : List α) : Prop := w.ownsRow B K.t K.k v xs.length (K.flat xs)
variable {K}
theorem RdG.below {w w' : World} {ao : Option Addr} {xs : List α} (h : RdG K w ao xs) (hb : Below w.heap.size w w') : RdG K w' ao xs := fun j hj => by
  obtain ⟨b, o, h1, h2, cur, fr, h3⟩ := h j hj
  exact ⟨b, o, h1, rangeAt_below h2 hb, cur, fr, (hb.block b (Array.getElem?_eq_some_iff.1 h3).1).trans h3⟩
theorem Kd.flat_len (xs : List α) : (K.flat xs).length = xs.length * K.k := by
  induction xs with
  | nil => simp [Kd.flat]
  | cons x xs ih =>
    unfold Kd.flat at *
    rw [List.flatMap_cons, List.length_append, ih, K.hk, List.length_cons, Nat.succ_mul]
    omega
theorem Kd.flat_app (xs ys : List α) : K.flat (xs ++ ys) = K.flat xs ++ K.flat ys := by simp [Kd.flat]
theorem Kd.flat_one (x : α) : K.flat [x] = K.f x := by simp [Kd.flat]
theorem Kd.flat_get : ∀ (xs : List α) (j q : Nat) (h : j < xs.length) (_ : q < K.k), (K.flat xs)[j * K.k + q]? = (K.f xs[j])[q]?
  | [], j, _, h, _ => by cases h
  | x :: xs, 0, q, _, hq => by
    have e : K.flat (x :: xs) = K.f x ++ K.flat xs := by simp [Kd.flat]
    rw [e, List.getElem?_append_left (by rw [K.hk]; omega)]
    simp
  | x :: xs, j + 1, q, h, hq => by
    have h1 := Kd.flat_get xs j q (by simpa using h) hq
    have e : K.flat (x :: xs) = K.f x ++ K.flat xs := by simp [Kd.flat]
    rw [e, List.getElem?_append_right (by rw [K.hk, Nat.succ_mul]; omega)]
    rw [show (j + 1) * K.k + q - (K.f x).length = j * K.k + q by rw [K.hk, Nat.succ_mul]; omega, h1]
    rfl
theorem Kd.flat_one' (xs : List α) : ∀ u ∈ K.flat xs, u.oneCell' = true := by
  intro u hu
  obtain ⟨x, -, hx⟩ := List.mem_flatMap.1 hu
  exact K.h1 x u hx
theorem OwnG.kept {w w' : World} {B : Nat} {v : Value} {xs : List α} (h : OwnG K w B v xs) (hk : ∀ b, v.ownBlock = some b → w'.heap[b]? = w.heap[b]?) : OwnG K w' B v xs := by
  refine ⟨h.1, ?_⟩
  rcases h.2 with h0 | ⟨g, cap, cur, e, hB, hg, r⟩
  · exact .inl h0
  · exact .inr ⟨g, cap, cur, e, hB, (hk g (by rw [e]; rfl)).trans hg, r⟩
theorem OwnG.lt' {w : World} {B : Nat} {v : Value} {xs : List α} (h : OwnG K w B v xs) {b : Nat} (hb : v.ownBlock = some b) : B ≤ b ∧ b < w.heap.size := World.ownsRow.lt h b hb
theorem OwnG.below {w w' : World} {B : Nat} {v : Value} {xs : List α} (h : OwnG K w B v xs) (hb : Below w.heap.size w w') : OwnG K w' B v xs := h.kept (fun b e => hb.block b (h.lt' e).2)
theorem OwnG.at_ {w : World} {B : Nat} {v : Value} {xs : List α} {b : Nat} (h : OwnG K w B v xs) (hb : v.ownBlock = some b) : ∃ cur, w.heap[b]? = some (.cells cur K.t (0, 0)) := by
  rcases h.2 with ⟨rfl, -⟩ | ⟨g, cap, cur, rfl, -, hg, -⟩
  · cases hb
  · cases hb; exact ⟨cur, hg⟩
theorem OwnG.base {w : World} {B B' : Nat} {v : Value} {xs : List α} (h : OwnG K w B v xs) (hB : B' ≤ B) : OwnG K w B' v xs :=
  ⟨h.1, h.2.imp id (fun ⟨g, cap, cur, h1, h2, h3⟩ => ⟨g, cap, cur, h1, Nat.le_trans hB h2, h3⟩)⟩
theorem OwnG.rd {w : World} {B g cap : Nat} {xs : List α} (h : OwnG K w B (.slice (some ⟨g, 0, none⟩) xs.length cap) xs) : RdG K w (some ⟨g, 0, none⟩) xs := fun j hj => by
  have hblk : ∃ cur fr, w.heap[g]? = some (.cells cur K.t fr) := by
    obtain ⟨cur, hc⟩ := h.at_ (b := g) rfl
    exact ⟨cur, _, hc⟩
  refine ⟨g, 0, rfl, fun q v hv => ?_, hblk⟩
  have hq : q < K.k := by have := (List.getElem?_eq_some_iff.1 hv).1; rw [K.hk] at this; exact this
  have hj2 : (j + 1) * K.k ≤ xs.length * K.k := Nat.mul_le_mul_right _ hj
  rw [Nat.succ_mul] at hj2
  rw [Nat.zero_add, World.ownsRow.cellAt h _ (by omega), Kd.flat_get xs j q hj hq]
  exact hv
theorem OwnG.val {w : World} {B : Nat} {v : Value} {xs : List α} (h : OwnG K w B v xs) : ∃ a c, v = .slice a xs.length c ∧ xs.length ≤ c ∧ c ≤ maxLen ∧ (a = none → c = 0) ∧ RdG K w a xs := by
  have h' := h
  rcases h.2 with ⟨rfl, h0⟩ | ⟨g, cap, cur, rfl, hB, hg, hn, hm, r⟩
  · obtain rfl : xs = [] := List.eq_nil_of_length_eq_zero h0
    exact ⟨none, 0, rfl, Nat.le_refl _, Nat.zero_le _, fun _ => rfl, fun j hj => absurd hj (Nat.not_lt_zero _)⟩
  · exact ⟨_, cap, rfl, hn, hm, (fun h => by cases h), OwnG.rd h'⟩
theorem OwnG.one {w : World} {B : Nat} {v : Value} {xs : List α} (h : OwnG K w B v xs) (hn : 0 < xs.length) : ∃ g c, v = .slice (some ⟨g, 0, none⟩) xs.length c ∧ xs.length ≤ c ∧ c ≤ maxLen ∧ B ≤ g ∧ g < w.heap.size := by
  have h' := h
  rcases h.2 with ⟨-, h0⟩ | ⟨g, cap, cur, e, hB, hg, h1, h2, -⟩
  · omega
  · exact ⟨g, cap, e, h1, h2, hB, (Array.getElem?_eq_some_iff.1 hg).1⟩
theorem OwnG.cell {w : World} {B g cap n : Nat} {xs : List α} (h : OwnG K w B (.slice (some ⟨g, 0, none⟩) n cap) xs) (hn : n = xs.length) (i q : Nat) (hi : i < xs.length) (hq : q < K.k) : w.cell? ⟨g, i * K.k + q, none⟩ = (K.f xs[i])[q]? := by
  subst hn
  have hj2 : (i + 1) * K.k ≤ xs.length * K.k := Nat.mul_le_mul_right _ hi
  rw [Nat.succ_mul] at hj2
  exact (World.ownsRow.cellAt h (i * K.k + q) (by omega)).trans (Kd.flat_get xs i q hi hq)
theorem RdG.take {w : World} {b o : Nat} {xs : List α} (h : RdG K w (some ⟨b, o, none⟩) xs) (n : Nat) : RdG K w (some ⟨b, o, none⟩) (xs.take n) := fun j hj => by
  obtain ⟨b', o', h1, h2, h3⟩ := h j (by rw [List.length_take] at hj; omega)
  refine ⟨b', o', h1, ?_, h3⟩
  rw [List.getElem_take]
  exact h2
theorem RdG.drop {w : World} {b o : Nat} {xs : List α} (h : RdG K w (some ⟨b, o, none⟩) xs) (n : Nat) : RdG K w (some ⟨b, o + n * K.k, none⟩) (xs.drop n) := fun j hj => by
  have hl : n + j < xs.length := by rw [List.length_drop] at hj; omega
  obtain ⟨b', o', h1, h2, h3⟩ := h (n + j) hl
  cases h1
  refine ⟨b, o + n * K.k, rfl, ?_, h3⟩
  rw [List.getElem_drop, show o + n * K.k + j * K.k = o + (n + j) * K.k by rw [Nat.add_mul]; omega]
  exact h2
theorem RdG.nil (w : World) (ao : Option Addr) : RdG K w ao [] := fun j hj => absurd hj (Nat.not_lt_zero _)
theorem RdG.news {w : World} {ad : Addr} {ys : List α} (hr : RdG K w (some ad) ys) : ∀ j u, (K.flat ys)[j]? = some u → w.cell? (ad.add j) = some u := fun j u hj => by
  have hlt : j < ys.length * K.k := by
    have := (List.getElem?_eq_some_iff.1 hj).1
    rw [Kd.flat_len] at this
    exact this
  have hp := K.hpos
  have hd : j / K.k < ys.length := (Nat.div_lt_iff_lt_mul hp).2 hlt
  obtain ⟨b, o, h1, h2, -⟩ := hr (j / K.k) hd
  cases h1
  rw [Go.WideShapes.add_plain]
  have f1 := Kd.flat_get ys (j / K.k) (j % K.k) hd (Nat.mod_lt _ hp)
  rw [Nat.div_add_mod' j K.k, hj] at f1
  have h3 := h2 (j % K.k) u f1.symm
  rw [Nat.add_assoc, Nat.div_add_mod' j K.k] at h3
  exact h3
/-- a row that has just been laid -/
theorem rdG_lit {w : World} {g : Nat} {fr : Nat × Nat} {C : Array Value} {xs : List α} (h : w.heap[g]? = some (.cells C K.t fr)) (hC : C.toList = K.flat xs) : RdG K w (some ⟨g, 0, none⟩) xs := fun j hj => by
  refine ⟨g, 0, rfl, fun q v hv => ?_, C, fr, h⟩
  have hq : q < K.k := by have := (List.getElem?_eq_some_iff.1 hv).1; rw [K.hk] at this; exact this
  rw [Nat.zero_add, cell_of_row _ _ _ _ _ _ h, ← Array.getElem?_toList, hC, Kd.flat_get xs j q hj hq]
  exact hv
/-- append of one element: where the new row lies -/
theorem wpo_appG1 {w : World} {o : Oper} {a : Act} {P : Act → World → Prop} {Q : Exit → Act → World → Prop} (s x : Operand)
    (ho : o.op = .call { callee := .builtin .append, args := #[s, x], argTypes := #[K.ts, K.ts] }) (B : Nat) (v : Value) (xs : List α) (y : α) (n : Nat) (hn : n = xs.length) (ad : Addr) (cap : Nat)
    (hs : a.eval s = v) (hown : OwnG K w B v xs) (hx : a.eval x = .slice (some ad) 1 cap) (hr : RdG K w (some ad) [y])
    (hb : (n + 1) * K.by_ ≤ 140737488355328) (hm : n + 1 ≤ maxLen) (hbase : B ≤ w.heap.size)
    (h : ∀ g cap w', OwnG K w' B (.slice (some ⟨g, 0, none⟩) (n + 1) cap) (xs ++ [y]) → w.grownBy w' v.ownBlock → (v.ownBlock = some g ∨ w.heap.size ≤ g) → P (a.put o.dst (.slice (some ⟨g, 0, none⟩) (n + 1) cap)) w') : o.wp Tryd.prog a w P Q := by
  subst hn
  obtain ⟨i0, hi, hz0, hz1, hz2⟩ := info_parts K.hi
  refine wp_append_lies w s x K.ts ho B K.t i0 K.z K.k K.by_ K.ht hi hz0 hz1 hz2 K.hz K.hpos v xs.length (K.flat xs) hs hown ad 1 cap (K.flat [y]) hx (Kd.flat_len [y]) hr.news (Kd.flat_one' [y]) (by omega) hm hb hbase w.heap.size rfl ?_
  intro g cap w' h1 h2 h3 _
  refine h g cap w' ?_ h2 (h3.imp id (fun e => by omega))
  unfold OwnG
  rw [List.length_append, Kd.flat_app]
  exact h1
theorem wp_appG1 {w : World} {ops : Array Oper} {rest : List Oper} {o : Oper} {a : Act} {Q : Exit → Act → World → Prop} (hgd : o.guard = none) (s x : Operand)
    (ho : o.op = .call { callee := .builtin .append, args := #[s, x], argTypes := #[K.ts, K.ts] }) (B : Nat) (v : Value) (xs : List α) (y : α) (n : Nat) (hn : n = xs.length) (ad : Addr) (cap : Nat)
    (hs : a.eval s = v) (hown : OwnG K w B v xs) (hx : a.eval x = .slice (some ad) 1 cap) (hr : RdG K w (some ad) [y])
    (hb : (n + 1) * K.by_ ≤ 140737488355328) (hm : n + 1 ≤ maxLen) (hbase : B ≤ w.heap.size)
    (h : ∀ g cap w', OwnG K w' B (.slice (some ⟨g, 0, none⟩) (n + 1) cap) (xs ++ [y]) → w.grownBy w' v.ownBlock → (v.ownBlock = some g ∨ w.heap.size ≤ g) → wpList Tryd.prog ops Q rest (a.put o.dst (.slice (some ⟨g, 0, none⟩) (n + 1) cap)) w') : wpList Tryd.prog ops Q (o :: rest) a w :=
  wpList_plain hgd fun _ hK => wpo_appG1 s x ho B v xs y n hn ad cap hs hown hx hr hb hm hbase fun g c w' h2 h3 h4 => hK _ _ (h g c w' h2 h3 h4)
end
/-- a start: a record's number and its epoch -/
structure Sta where
  n : Nat
  e : Nat
abbrev KS : Kd Sta := { t := 79, ts := 56, k := 2, by_ := 16, f := fun s => [.int .u64 (s.n : Int), .int .u64 (s.e : Int)], z := .agg #[.int .u64 0, .int .u64 0], hk := fun _ => rfl, h1 := (fun d u hu => by simp at hu; rcases hu with rfl | rfl <;> rfl), hpos := by decide, ht := Tryd.underlying56, hi := by kernel_rfl, hz := rfl }
/-- the starts of a head's records, and where the last one ends -/
def stGo (d : Dst) (A Z hi top : Nat) : Nat → Nat → Nat → List Sta → List Sta × Nat
  | 0, nx, _, acc => (acc, nx)
  | k + 1, nx, lo, acc =>
    if frE d A Z nx lo hi ≠ 0 ∨ ptsE d A Z (pcL d A Z nx) (needS (pcL d A Z nx).len - 1) ≠ 0 ∨ top < nx + needS (pcL d A Z nx).len then (acc, nx)
    else stGo d A Z hi top k (nx + needS (pcL d A Z nx).len) (pcL d A Z nx).e (acc ++ [⟨nx, (pcL d A Z nx).e⟩])
def stS (d : Dst) (A Z : Nat) (h : Hd) : List Sta × Nat := stGo d A Z h.e (h.f + (Z - 2)) (Z + 1) h.f h.l []
theorem stGo_stop {d : Dst} {A Z hi top k nx lo : Nat} {acc : List Sta} (h : frE d A Z nx lo hi ≠ 0 ∨ ptsE d A Z (pcL d A Z nx) (needS (pcL d A Z nx).len - 1) ≠ 0 ∨ top < nx + needS (pcL d A Z nx).len) : stGo d A Z hi top (k + 1) nx lo acc = (acc, nx) := if_pos h
theorem stGo_next {d : Dst} {A Z hi top k nx lo : Nat} {acc : List Sta} (h : ¬ (frE d A Z nx lo hi ≠ 0 ∨ ptsE d A Z (pcL d A Z nx) (needS (pcL d A Z nx).len - 1) ≠ 0 ∨ top < nx + needS (pcL d A Z nx).len)) : stGo d A Z hi top (k + 1) nx lo acc = stGo d A Z hi top k (nx + needS (pcL d A Z nx).len) (pcL d A Z nx).e (acc ++ [⟨nx, (pcL d A Z nx).e⟩]) := if_neg h
end Go.Proofs.YtibepnilhmbpeaaDoor
namespace Go.Proofs.YtibepnilhmbpeaaDoor
set_option linter.unusedVariables false
set_option linter.unusedSimpArgs false
open Go.RowKit
/-- what readStarts answers -/
structure SsOut (d : Dst) (A Z : Nat) (h : Hd) (w : World) (e : Ending) (w' : World) : Prop where
  ex : ∃ v, e = .returned (.tuple #[v, .int .u64 ((stS d A Z h).2 : Int)]) ∧ OwnG KS w' w.heap.size v (stS d A Z h).1
  bel : Below w.heap.size w w'
set_option maxRecDepth 20000 in
set_option maxHeartbeats 6400000 in
theorem readStarts_t {w : World} {p m : Nat} {d : Dst} {F : Nat → Prop} (hd : Dsk w p d m F) (hoff : d.off = false) (A Z : Nat) (h : Hd) (hf : h.f < 281474976710656) (hZ : 3 ≤ Z) (hAZ : A + Z ≤ d.S.length) (ht : TabOk w) :
    Calls Tryd.prog 40 #[plV p A Z, h.v] w fun e w' => SsOut d A Z h w e w' := by
  have hsz := hd.size
  have hZ2 : Z ≤ 65536 := by omega
  have HFR : Hid (∀ u nx lo, Below w.heap.size w u → nx < 18446744073709551616 → Calls Tryd.prog 60 #[plV p A Z, .int .u64 ((nx : Nat) : Int), .int .u64 ((lo : Nat) : Int), .int .u64 (h.e : Int)] u fun e w' => PcRes (frE d A Z nx lo h.e) (pcL d A Z nx) (pcX d A Z nx) u e w') := fun u nx lo hu hn => readFront_t (hd.below hu) hoff A Z nx lo h.e hZ hAZ hn (ht.below hu)
  have HRQ : Hid (∀ u q, Below w.heap.size w u → q.n < 18446744073709551616 → Calls Tryd.prog 61 #[plV p A Z, lbV q.n q.e q.len q.i] u fun e w' => PcRes (ptE d A Z q) (pcL d A Z q.n) (pcX d A Z q.n) u e w') := fun u q hu hq => readPart_t (hd.below hu) hoff A Z q hZ hAZ hq (ht.below hu)
  obtain ⟨R, hR⟩ : ∃ R, R = Z - 2 := ⟨_, rfl⟩
  obtain ⟨top, htop⟩ : ∃ top, top = h.f + R := ⟨_, rfl⟩
  have HRG : Hid (∀ u, Calls Tryd.prog 32 #[plV p A Z] u fun e w' => e = .returned (.int .u64 (R : Int)) ∧ Below u.heap.size u w') := fun u => by rw [hR]; exact ring_t p A Z (by omega) hZ2 u
  have htw : IntKind.u64.wrap ((h.f : Int) + (R : Int)) = (top : Int) := by rw [IntKind.wrap_u64]; omega
  have HTB : Hid (top < 281474976776192 ∧ R = Z - 2 ∧ top = h.f + R) := ⟨by omega, hR, htop⟩
  have HSS : Hid (stS d A Z h = stGo d A Z h.e top (Z + 1) h.f h.l []) := by unfold Hid stS; rw [htop, hR]
  clear hd hoff ht hAZ hsz hR htop hf
  go_enter Tryd.func40, Tryd.ntmps40
  go_wp2_with fail
  go_step3
  go_wp2_with fail
  go_step3
  go_wp2_with fail
  have hb0 : Below w.heap.size w ((w.alloc (.cells (plC p A Z) tPl)).alloc (.cells h.c tHd)) := alS (alS (Below.refl _ _) _) _
  have hbx : ((w.alloc (.cells (plC p A Z) tPl)).alloc (.cells h.c tHd)).heap[w.heap.size]? = some (.cells (plC p A Z) tPl (0, 0)) := below_blk (alS (Below.refl _ _) _) (heap_alloc_new w _)
  have hbh : ((w.alloc (.cells (plC p A Z) tPl)).alloc (.cells h.c tHd)).heap[w.heap.size + 1]? = some (.cells h.c tHd (0, 0)) := by
    have h9 := heap_alloc_new (w.alloc (.cells (plC p A Z) tPl)) (.cells h.c tHd)
    rw [show (w.alloc (.cells (plC p A Z) tPl)).heap.size = w.heap.size + 1 by simp] at h9
    exact h9
  generalize ((w.alloc (.cells (plC p A Z) tPl)).alloc (.cells h.c tHd)) = W0 at *
  have HB0 : Hid (Below w.heap.size w W0) := hb0
  have HX0 : Hid (W0.heap[w.heap.size]? = some (.cells (plC p A Z) tPl (0, 0))) := hbx
  have HH0 : Hid (W0.heap[w.heap.size + 1]? = some (.cells h.c tHd (0, 0))) := hbh
  clear hb0 hbx hbh
  go_loopw [4, 5, 6] (fun v x y wr => ∃ (k nx lo : Nat) (acc : List Sta), x = .int .u64 (nx : Int) ∧ y = .int .u64 (lo : Int) ∧ Hid (h.f + k ≤ nx ∧ nx ≤ top ∧ acc.length = k ∧ stS d A Z h = stGo d A Z h.e top (Z + 1 - k) nx lo acc) ∧ OwnG KS wr W0.heap.size v acc ∧ Below W0.heap.size W0 wr) (fun _ x _ _ => top - (intOf x).toNat)
  case atStart => exact ⟨0, h.f, h.l, [], rfl, rfl, ⟨by omega, by have := HTB.out; omega, rfl, HSS.out⟩, World.ownsRow_nil _ _ _ _, Below.refl _ _⟩
  case round =>
    obtain ⟨k, nx, lo, acc, rfl, rfl, HK, hown, hbw⟩ := hrel
    have HO : Hid (OwnG KS wr W0.heap.size u4 acc) := hown
    have HB : Hid (Below W0.heap.size W0 wr) := hbw
    obtain ⟨b0, b1, b2⟩ := cellsP3 (below_blk hbw HX0.out)
    obtain ⟨e0, e1, e2, e3⟩ := cells4 (below_blk hbw HH0.out)
    obtain ⟨r, hr⟩ : ∃ r, Z + 1 - k = r + 1 := ⟨Z - k, by have := HK.out; have := HTB.out; omega⟩
    have HR1 : Hid (Z + 1 - k = r + 1) := hr
    have hnx : nx < 281474976776192 := by have := HK.out; have := HTB.out; omega
    obtain ⟨FE, hFE⟩ : ∃ FE, FE = frE d A Z nx lo h.e := ⟨_, rfl⟩
    obtain ⟨l, hl⟩ : ∃ l, l = pcL d A Z nx := ⟨_, rfl⟩
    obtain ⟨Y, hY⟩ : ∃ Y, Y = pcX d A Z nx := ⟨_, rfl⟩
    have HF1 : Hid _ := HFR.out wr nx lo (below_next HB0.out hbw) (by omega)
    rw [← hFE, ← hl, ← hY] at HF1
    obtain ⟨M, hM⟩ : ∃ M, M = needS l.len := ⟨_, rfl⟩
    have HST : Hid ((FE ≠ 0 ∨ ptsE d A Z l (M - 1) ≠ 0 ∨ top < nx + M) → stS d A Z h = (acc, nx)) := fun h9 => by
      rw [HK.out.2.2.2, HR1.out]
      refine stGo_stop ?_
      rw [← hFE, ← hl, ← hM]
      exact h9
    have HGO : Hid (¬ (FE ≠ 0 ∨ ptsE d A Z l (M - 1) ≠ 0 ∨ top < nx + M) → stS d A Z h = stGo d A Z h.e top r (nx + M) l.e (acc ++ [⟨nx, l.e⟩])) := fun h9 => by
      rw [HK.out.2.2.2, HR1.out, stGo_next (by rw [← hFE, ← hl, ← hM]; exact h9), ← hl, ← hM]
    have HFZ : Hid (FE = 0 → l.i = 0 ∧ l.n = nx ∧ 1 ≤ M) := fun h9 => by
      obtain ⟨-, h2, h3, -, -, h4⟩ := frE_zero (hFE.symm.trans h9)
      rw [← hl] at h2 h3 h4
      exact ⟨h2, h3, by rw [hM]; exact h4⟩
    have HLT : Hid (l.n < 281474976710656 ∧ l.len < 65536 ∧ M ≤ 79) := ⟨by rw [hl]; exact (pcL_lt d A Z nx).1, by rw [hl]; exact (pcL_lt d A Z nx).2.2, by rw [hM]; exact needS_le _⟩
    have HNE : Hid (∀ u, Calls Tryd.prog 11 #[.int .i64 (l.len : Int)] u fun er w' => er = .returned (.int .i64 (M : Int)) ∧ w' = u) := fun u => by rw [hM]; exact need_t l.len (by have := HLT.out; omega) u
    clear hown hbw hr hFE hl hY hM
    go_wp2_with fail
    refine Calls.mono HF1.out ?_
    rintro e u1 hpo
    by_cases hE : FE = 0
    · obtain ⟨a, c, he, -, -, -⟩ := hpo.ok hE
      have HLZ : Hid (l.i = 0 ∧ l.n = nx ∧ 1 ≤ M) := HFZ.out hE
      have HEZ : Hid (FE = 0) := hE
      subst he
      have hb2 : Below wr.heap.size wr (u1.alloc (.cells #[.int .u64 (l.n : Int), .int .u64 (l.e : Int), .int .i64 (l.len : Int), .int .i64 (l.i : Int), .slice a Y.length c] tPc)) := below_next hpo.bel (alS (Below.refl _ _) _)
      have hfx : (u1.alloc (.cells #[.int .u64 (l.n : Int), .int .u64 (l.e : Int), .int .i64 (l.len : Int), .int .i64 (l.i : Int), .slice a Y.length c] tPc)).heap[u1.heap.size]? = some (.cells #[.int .u64 (l.n : Int), .int .u64 (l.e : Int), .int .i64 (l.len : Int), .int .i64 (l.i : Int), .slice a Y.length c] tPc (0, 0)) := heap_alloc_new _ _
      obtain ⟨g0, hg0⟩ : ∃ g0, g0 = u1.heap.size := ⟨_, rfl⟩
      rw [← hg0] at hfx
      clear hpo hE b0 b1 b2 e0 e1 e2 e3
      go_upto_region 5 with fail
      rw [← hg0]
      generalize (u1.alloc (.cells #[.int .u64 (l.n : Int), .int .u64 (l.e : Int), .int .i64 (l.len : Int), .int .i64 (l.i : Int), .slice a Y.length c] tPc)) = W1 at *
      have HB1 : Hid (Below W0.heap.size W0 W1) := below_next HB.out hb2
      have HBR : Hid (Below wr.heap.size wr W1) := hb2
      have HFW : Hid (W1.heap[g0]? = some (.cells #[.int .u64 (l.n : Int), .int .u64 (l.e : Int), .int .i64 (l.len : Int), .int .i64 (l.i : Int), .slice a Y.length c] tPc (0, 0))) := hfx
      obtain ⟨f0, f1, f2, f3, f4⟩ := cells5 hfx
      clear hb2 hfx hg0
      go_wp2_with (go_at_call 11; refine Calls.mono (HNE.out _) ?_; rintro e w' ⟨rfl, hq⟩; have hq := hq.symm; subst hq)
      go_loopw [10] (fun j wq => ∃ q : Nat, q + 1 ≤ M ∧ j = .int .i64 ((q + 1 : Nat) : Int) ∧ Hid (ptsE d A Z l q = 0) ∧ Below W1.heap.size W1 wq) (fun j _ => M - (intOf j).toNat)
      case atStart => exact ⟨0, HLZ.out.2.2, rfl, rfl, Below.refl _ _⟩
      case round =>
        obtain ⟨q, hq, rfl, HPZ, hbq⟩ := hrel
        rename World => wq
        obtain ⟨i, hik⟩ : ∃ i, i = q + 1 := ⟨_, rfl⟩
        rw [← hik]
        have HIK : Hid (i = q + 1) := hik
        have HBQ : Hid (Below W1.heap.size W1 wq) := hbq
        have HBX : Hid (∀ u, Below wq.heap.size wq u → u.heap[w.heap.size]? = some (.cells (plC p A Z) tPl (0, 0))) := fun u hu => below_blk (below_next HB1.out (below_next hbq hu)) HX0.out
        have HHX : Hid (∀ u, Below wq.heap.size wq u → u.heap[w.heap.size + 1]? = some (.cells h.c tHd (0, 0))) := fun u hu => below_blk (below_next HB1.out (below_next hbq hu)) HH0.out
        have HFX : Hid (∀ u, Below wq.heap.size wq u → u.heap[g0]? = some (.cells #[.int .u64 (l.n : Int), .int .u64 (l.e : Int), .int .i64 (l.len : Int), .int .i64 (l.i : Int), .slice a Y.length c] tPc (0, 0))) := fun u hu => below_blk (below_next hbq hu) HFW.out
        clear hbq hik f0 f1 f2 f3 f4
        by_cases hlt : i < M
        · have hltI : (i : Int) < (M : Int) := by omega
          have hiw : IntKind.i64.wrap ((i : Int) + 1) = ((i + 1 : Nat) : Int) := by rw [IntKind.wrap_i64]; have := HLT.out; omega
          have HPT : Hid (∀ u, Calls Tryd.prog 51 #[lbV l.n l.e l.len l.i, .int .i64 (i : Int)] u fun er w' => er = .returned (lbV (ptQ l i).n (ptQ l i).e (ptQ l i).len (ptQ l i).i) ∧ Below u.heap.size u w') := fun u => part_t l.n l.e l.len l.i i (by have := HLT.out; omega) (by have := HLT.out; omega) u
          have HRP : Hid (∀ u, Below wq.heap.size wq u → Calls Tryd.prog 61 #[plV p A Z, lbV (ptQ l i).n (ptQ l i).e (ptQ l i).len (ptQ l i).i] u fun e w' => PcRes (ptE d A Z (ptQ l i)) (pcL d A Z (ptQ l i).n) (pcX d A Z (ptQ l i).n) u e w') := fun u hu => HRQ.out u (ptQ l i) (below_next HB0.out (below_next HB1.out (below_next HBQ.out hu))) (by show l.n + i < _; have := HLT.out; omega)
          obtain ⟨PE, hPE⟩ : ∃ PE, PE = ptE d A Z (ptQ l i) := ⟨_, rfl⟩
          rw [← hPE] at HRP
          have HNX : Hid (ptsE d A Z l i = PE) := by unfold Hid; rw [HIK.out, ptsE_next HPZ.out, ← HIK.out, ← hPE]
          clear hPE
          by_cases hPZ : PE = 0
          · have HPE : Hid (PE = 0) := hPZ
            have HNX2 : Hid (ptsE d A Z l i = 0) := by unfold Hid; rw [HNX.out]; exact hPZ
            clear hPZ
            go_upto_region 9 with fail
            refine wp_region_held_drew (S := (fun u => Below wq.heap.size wq u)) (by kernel_rfl) (by first | exact (Below.refl _ _).drew | exact HN3.out | exact HN2.out | exact alS hHeld _ | exact hz9 | assumption) (fun hHeld => ?_)
            refine take_at (i := 0) 39 (v := plV p A Z) rfl rfl (by kernel_rfl) (by kernel_rfl) (by kernel_rfl) (fun _ _ _ h => h) (by rfl) ?_ hHeld ?_
            · (intro w hSw; refine exec_load (by rfl) ?_; exact plLoad (HBX.out _ hSw))
            simp only [Act.put, List.setIfInBounds_toArray, List.set_cons_zero, List.set_cons_succ]
            refine take_at (i := 1) 40 (v := ?_) rfl rfl (by kernel_rfl) (by kernel_rfl) (by kernel_rfl) (fun _ _ _ h => h) (by rfl) ?_ hHeld ?_
            rotate_left
            · (intro w hSw; (try dsimp only at hSw); go_simp; try with_reducible rfl)
            simp only [Act.put, List.setIfInBounds_toArray, List.set_cons_zero, List.set_cons_succ]
            refine take_at (i := 2) 41 (v := lbV l.n l.e l.len l.i) rfl rfl (by kernel_rfl) (by kernel_rfl) (by kernel_rfl) (fun _ _ _ h => h) (by rfl) ?_ hHeld ?_
            · (intro w hSw; refine exec_load (by rfl) ?_; exact lbLoad (HFX.out _ hSw))
            simp only [Act.put, List.setIfInBounds_toArray, List.set_cons_zero, List.set_cons_succ]
            refine take_at (i := 3) 42 (v := ?_) rfl rfl (by kernel_rfl) (by kernel_rfl) (by kernel_rfl) (fun _ _ _ h => h) (by rfl) ?_ hHeld ?_
            rotate_left
            · (intro w hSw; (try dsimp only at hSw); go_simp; try with_reducible rfl)
            simp only [Act.put, List.setIfInBounds_toArray, List.set_cons_zero, List.set_cons_succ]
            refine wpAnyH_ready (rs := [4, 9]) (by kernel_rfl) (by simp) ?_
            refine AllReadyH.cons (o := _) rfl (fun K hK => ?_) ?_
            focus
              rw [if_pos (by rfl)]
              simp only [List.getElem_toArray, List.getElem_cons_zero, List.getElem_cons_succ]
              go_simp
              first | (go_at_call 51; refine Calls.mono (HPT.out _) ?_; rintro e u2 ⟨he2, hu2⟩; subst he2; have HU2 : Hid (Below _ _ u2) := hu2; have HN2 : Hid (Below wq.heap.size wq u2) := below_next hHeld hu2; clear hu2) | (go_at_call 61; refine Calls.mono (HRP.out _ hHeld) ?_; rintro e u3 hpo; have HU3 : Hid (Below _ _ u3) := hpo.bel; have HN3 : Hid (Below wq.heap.size wq u3) := below_next hHeld hpo.bel; obtain ⟨a9, c9, he9, -, -, -⟩ := hpo.ok HPE.out; subst he9; clear hpo)
              go_wp2_with fail
              refine hK.out _ _ (by first | exact (Below.refl _ _).drew | exact HN3.out | exact HN2.out | exact alS hHeld _ | exact hz9 | assumption) ?_
              clear hK K
              intro hHeld2
              clear hHeld
              have hHeld := hHeld2
              clear hHeld2
              try simp only [Act.put, List.setIfInBounds_toArray, List.set_cons_zero, List.set_cons_succ]
              refine wpAnyH_ready (rs := [5, 9]) (by kernel_rfl) (by simp) ?_
              refine AllReadyH.cons (o := _) rfl (fun K hK => ?_) ?_
              focus
                rw [if_pos (by rfl)]
                simp only [List.getElem_toArray, List.getElem_cons_zero, List.getElem_cons_succ]
                go_simp
                first | (go_at_call 51; refine Calls.mono (HPT.out _) ?_; rintro e u2 ⟨he2, hu2⟩; subst he2; have HU2 : Hid (Below _ _ u2) := hu2; have HN2 : Hid (Below wq.heap.size wq u2) := below_next hHeld hu2; clear hu2) | (go_at_call 61; refine Calls.mono (HRP.out _ hHeld) ?_; rintro e u3 hpo; have HU3 : Hid (Below _ _ u3) := hpo.bel; have HN3 : Hid (Below wq.heap.size wq u3) := below_next hHeld hpo.bel; obtain ⟨a9, c9, he9, -, -, -⟩ := hpo.ok HPE.out; subst he9; clear hpo)
                go_wp2_with fail
                refine hK.out _ _ (by first | exact (Below.refl _ _).drew | exact HN3.out | exact HN2.out | exact alS hHeld _ | exact hz9 | assumption) ?_
                clear hK K
                intro hHeld2
                clear hHeld
                have hHeld := hHeld2
                clear hHeld2
                try simp only [Act.put, List.setIfInBounds_toArray, List.set_cons_zero, List.set_cons_succ]
                refine take_at (i := 6) 38 (v := ?_) rfl rfl (by kernel_rfl) (by kernel_rfl) (by kernel_rfl) (fun _ _ _ h => h) (by rfl) ?_ hHeld ?_
                rotate_left
                · (intro w hSw; (try dsimp only at hSw); go_simp; try with_reducible rfl)
                simp only [Act.put, List.setIfInBounds_toArray, List.set_cons_zero, List.set_cons_succ]
                refine take_at (i := 7) 45 (v := ?_) rfl rfl (by kernel_rfl) (by kernel_rfl) (by kernel_rfl) (fun _ _ _ h => h) (by rfl) ?_ hHeld ?_
                rotate_left
                · (intro w hSw; (try dsimp only at hSw); go_simp; try with_reducible rfl)
                simp only [Act.put, List.setIfInBounds_toArray, List.set_cons_zero, List.set_cons_succ]
                refine take_at (i := 8) 46 (v := ?_) rfl rfl (by kernel_rfl) (by kernel_rfl) (by kernel_rfl) (fun _ _ _ h => h) (by rfl) ?_ hHeld ?_
                rotate_left
                · (intro w hSw; (try dsimp only at hSw); go_simp; try with_reducible rfl)
                simp only [Act.put, List.setIfInBounds_toArray, List.set_cons_zero, List.set_cons_succ]
                refine run_at (i := 9) rfl (by kernel_rfl) (by rfl) (fun K hK => ?_)
                simp only [List.getElem_toArray, List.getElem_cons_zero, List.getElem_cons_succ]
                go_simp
                go_wp2_with fail
                refine hK.out _ _ (by first | exact (Below.refl _ _).drew | exact HN3.out | exact HN2.out | exact alS hHeld _ | exact hz9 | assumption) ?_
                clear hK K
                intro hHeld2
                clear hHeld
                have hHeld := hHeld2
                clear hHeld2
                try simp only [Act.put, List.setIfInBounds_toArray, List.set_cons_zero, List.set_cons_succ]
                refine run_at (i := 10) rfl (by kernel_rfl) (by rfl) (fun K hK => ?_)
                simp only [List.getElem_toArray, List.getElem_cons_zero, List.getElem_cons_succ]
                ((refine wpo_storeP (W := wq) _ _ rfl _ _ _ _ _ _ (by rfl) (by rfl) (by simp [Value.oneCell']) _ _ _ _ _ _ (by first | exact heap_alloc_new _ _ | exact below_blk HU3.out (heap_alloc_new _ _) | exact below_blk (below_next HU2.out HU3.out) (heap_alloc_new _ _)) (show Below wq.heap.size wq _ from hHeld) (by first | exact HN3.out.size | exact HN2.out.size | exact Nat.le_refl _) ?_; intro z9 hz9 hcz9 hgz9))
                refine hK.out _ _ (by first | exact (Below.refl _ _).drew | exact HN3.out | exact HN2.out | exact alS hHeld _ | exact hz9 | assumption) ?_
                clear hK K
                intro hHeld2
                clear hHeld
                have hHeld := hHeld2
                clear hHeld2
                try simp only [Act.put, List.setIfInBounds_toArray, List.set_cons_zero, List.set_cons_succ]
                refine take_at (i := 11) 12 (v := ?_) rfl rfl (by kernel_rfl) (by kernel_rfl) (by kernel_rfl) (fun _ _ _ h => h) (by rfl) ?_ hHeld ?_
                rotate_left
                · (intro w hSw; (try dsimp only at hSw); go_simp; try with_reducible rfl)
                simp only [Act.put, List.setIfInBounds_toArray, List.set_cons_zero, List.set_cons_succ]
                refine wpAnyH_done (by kernel_rfl) ?_ _
              rotate_left 1
              refine AllReadyH.cons (o := _) rfl (fun K hK => ?_) AllReadyH.nil
              focus
                rw [if_pos (by rfl)]
                simp only [List.getElem_toArray, List.getElem_cons_zero, List.getElem_cons_succ]
                go_simp
                go_wp2_with fail
                refine hK.out _ _ (by first | exact (Below.refl _ _).drew | exact HN3.out | exact HN2.out | exact alS hHeld _ | exact hz9 | assumption) ?_
                clear hK K
                intro hHeld2
                clear hHeld
                have hHeld := hHeld2
                clear hHeld2
                try simp only [Act.put, List.setIfInBounds_toArray, List.set_cons_zero, List.set_cons_succ]
                refine run_at (i := 5) rfl (by kernel_rfl) (by rfl) (fun K hK => ?_)
                simp only [List.getElem_toArray, List.getElem_cons_zero, List.getElem_cons_succ]
                go_simp
                first | (go_at_call 51; refine Calls.mono (HPT.out _) ?_; rintro e u2 ⟨he2, hu2⟩; subst he2; have HU2 : Hid (Below _ _ u2) := hu2; have HN2 : Hid (Below wq.heap.size wq u2) := below_next hHeld hu2; clear hu2) | (go_at_call 61; refine Calls.mono (HRP.out _ hHeld) ?_; rintro e u3 hpo; have HU3 : Hid (Below _ _ u3) := hpo.bel; have HN3 : Hid (Below wq.heap.size wq u3) := below_next hHeld hpo.bel; obtain ⟨a9, c9, he9, -, -, -⟩ := hpo.ok HPE.out; subst he9; clear hpo)
                go_wp2_with fail
                refine hK.out _ _ (by first | exact (Below.refl _ _).drew | exact HN3.out | exact HN2.out | exact alS hHeld _ | exact hz9 | assumption) ?_
                clear hK K
                intro hHeld2
                clear hHeld
                have hHeld := hHeld2
                clear hHeld2
                try simp only [Act.put, List.setIfInBounds_toArray, List.set_cons_zero, List.set_cons_succ]
                refine take_at (i := 6) 38 (v := ?_) rfl rfl (by kernel_rfl) (by kernel_rfl) (by kernel_rfl) (fun _ _ _ h => h) (by rfl) ?_ hHeld ?_
                rotate_left
                · (intro w hSw; (try dsimp only at hSw); go_simp; try with_reducible rfl)
                simp only [Act.put, List.setIfInBounds_toArray, List.set_cons_zero, List.set_cons_succ]
                refine take_at (i := 7) 45 (v := ?_) rfl rfl (by kernel_rfl) (by kernel_rfl) (by kernel_rfl) (fun _ _ _ h => h) (by rfl) ?_ hHeld ?_
                rotate_left
                · (intro w hSw; (try dsimp only at hSw); go_simp; try with_reducible rfl)
                simp only [Act.put, List.setIfInBounds_toArray, List.set_cons_zero, List.set_cons_succ]
                refine take_at (i := 8) 46 (v := ?_) rfl rfl (by kernel_rfl) (by kernel_rfl) (by kernel_rfl) (fun _ _ _ h => h) (by rfl) ?_ hHeld ?_
                rotate_left
                · (intro w hSw; (try dsimp only at hSw); go_simp; try with_reducible rfl)
                simp only [Act.put, List.setIfInBounds_toArray, List.set_cons_zero, List.set_cons_succ]
                refine run_at (i := 10) rfl (by kernel_rfl) (by rfl) (fun K hK => ?_)
                simp only [List.getElem_toArray, List.getElem_cons_zero, List.getElem_cons_succ]
                ((refine wpo_storeP (W := wq) _ _ rfl _ _ _ _ _ _ (by rfl) (by rfl) (by simp [Value.oneCell']) _ _ _ _ _ _ (by first | exact heap_alloc_new _ _ | exact below_blk HU3.out (heap_alloc_new _ _) | exact below_blk (below_next HU2.out HU3.out) (heap_alloc_new _ _)) (show Below wq.heap.size wq _ from hHeld) (by first | exact HN3.out.size | exact HN2.out.size | exact Nat.le_refl _) ?_; intro z9 hz9 hcz9 hgz9))
                refine hK.out _ _ (by first | exact (Below.refl _ _).drew | exact HN3.out | exact HN2.out | exact alS hHeld _ | exact hz9 | assumption) ?_
                clear hK K
                intro hHeld2
                clear hHeld
                have hHeld := hHeld2
                clear hHeld2
                try simp only [Act.put, List.setIfInBounds_toArray, List.set_cons_zero, List.set_cons_succ]
                refine take_at (i := 11) 12 (v := ?_) rfl rfl (by kernel_rfl) (by kernel_rfl) (by kernel_rfl) (fun _ _ _ h => h) (by rfl) ?_ hHeld ?_
                rotate_left
                · (intro w hSw; (try dsimp only at hSw); go_simp; try with_reducible rfl)
                simp only [Act.put, List.setIfInBounds_toArray, List.set_cons_zero, List.set_cons_succ]
                refine wpAnyH_done (by kernel_rfl) ?_ _
            rotate_left 2
            refine AllReadyH.cons (o := _) rfl (fun K hK => ?_) AllReadyH.nil
            focus
              rw [if_pos (by rfl)]
              simp only [List.getElem_toArray, List.getElem_cons_zero, List.getElem_cons_succ]
              go_simp
              go_wp2_with fail
              refine hK.out _ _ (by first | exact (Below.refl _ _).drew | exact HN3.out | exact HN2.out | exact alS hHeld _ | exact hz9 | assumption) ?_
              clear hK K
              intro hHeld2
              clear hHeld
              have hHeld := hHeld2
              clear hHeld2
              try simp only [Act.put, List.setIfInBounds_toArray, List.set_cons_zero, List.set_cons_succ]
              refine run_at (i := 4) rfl (by kernel_rfl) (by rfl) (fun K hK => ?_)
              simp only [List.getElem_toArray, List.getElem_cons_zero, List.getElem_cons_succ]
              go_simp
              first | (go_at_call 51; refine Calls.mono (HPT.out _) ?_; rintro e u2 ⟨he2, hu2⟩; subst he2; have HU2 : Hid (Below _ _ u2) := hu2; have HN2 : Hid (Below wq.heap.size wq u2) := below_next hHeld hu2; clear hu2) | (go_at_call 61; refine Calls.mono (HRP.out _ hHeld) ?_; rintro e u3 hpo; have HU3 : Hid (Below _ _ u3) := hpo.bel; have HN3 : Hid (Below wq.heap.size wq u3) := below_next hHeld hpo.bel; obtain ⟨a9, c9, he9, -, -, -⟩ := hpo.ok HPE.out; subst he9; clear hpo)
              go_wp2_with fail
              refine hK.out _ _ (by first | exact (Below.refl _ _).drew | exact HN3.out | exact HN2.out | exact alS hHeld _ | exact hz9 | assumption) ?_
              clear hK K
              intro hHeld2
              clear hHeld
              have hHeld := hHeld2
              clear hHeld2
              try simp only [Act.put, List.setIfInBounds_toArray, List.set_cons_zero, List.set_cons_succ]
              refine run_at (i := 5) rfl (by kernel_rfl) (by rfl) (fun K hK => ?_)
              simp only [List.getElem_toArray, List.getElem_cons_zero, List.getElem_cons_succ]
              go_simp
              first | (go_at_call 51; refine Calls.mono (HPT.out _) ?_; rintro e u2 ⟨he2, hu2⟩; subst he2; have HU2 : Hid (Below _ _ u2) := hu2; have HN2 : Hid (Below wq.heap.size wq u2) := below_next hHeld hu2; clear hu2) | (go_at_call 61; refine Calls.mono (HRP.out _ hHeld) ?_; rintro e u3 hpo; have HU3 : Hid (Below _ _ u3) := hpo.bel; have HN3 : Hid (Below wq.heap.size wq u3) := below_next hHeld hpo.bel; obtain ⟨a9, c9, he9, -, -, -⟩ := hpo.ok HPE.out; subst he9; clear hpo)
              go_wp2_with fail
              refine hK.out _ _ (by first | exact (Below.refl _ _).drew | exact HN3.out | exact HN2.out | exact alS hHeld _ | exact hz9 | assumption) ?_
              clear hK K
              intro hHeld2
              clear hHeld
              have hHeld := hHeld2
              clear hHeld2
              try simp only [Act.put, List.setIfInBounds_toArray, List.set_cons_zero, List.set_cons_succ]
              refine take_at (i := 6) 38 (v := ?_) rfl rfl (by kernel_rfl) (by kernel_rfl) (by kernel_rfl) (fun _ _ _ h => h) (by rfl) ?_ hHeld ?_
              rotate_left
              · (intro w hSw; (try dsimp only at hSw); go_simp; try with_reducible rfl)
              simp only [Act.put, List.setIfInBounds_toArray, List.set_cons_zero, List.set_cons_succ]
              refine take_at (i := 7) 45 (v := ?_) rfl rfl (by kernel_rfl) (by kernel_rfl) (by kernel_rfl) (fun _ _ _ h => h) (by rfl) ?_ hHeld ?_
              rotate_left
              · (intro w hSw; (try dsimp only at hSw); go_simp; try with_reducible rfl)
              simp only [Act.put, List.setIfInBounds_toArray, List.set_cons_zero, List.set_cons_succ]
              refine take_at (i := 8) 46 (v := ?_) rfl rfl (by kernel_rfl) (by kernel_rfl) (by kernel_rfl) (fun _ _ _ h => h) (by rfl) ?_ hHeld ?_
              rotate_left
              · (intro w hSw; (try dsimp only at hSw); go_simp; try with_reducible rfl)
              simp only [Act.put, List.setIfInBounds_toArray, List.set_cons_zero, List.set_cons_succ]
              refine run_at (i := 10) rfl (by kernel_rfl) (by rfl) (fun K hK => ?_)
              simp only [List.getElem_toArray, List.getElem_cons_zero, List.getElem_cons_succ]
              ((refine wpo_storeP (W := wq) _ _ rfl _ _ _ _ _ _ (by rfl) (by rfl) (by simp [Value.oneCell']) _ _ _ _ _ _ (by first | exact heap_alloc_new _ _ | exact below_blk HU3.out (heap_alloc_new _ _) | exact below_blk (below_next HU2.out HU3.out) (heap_alloc_new _ _)) (show Below wq.heap.size wq _ from hHeld) (by first | exact HN3.out.size | exact HN2.out.size | exact Nat.le_refl _) ?_; intro z9 hz9 hcz9 hgz9))
              refine hK.out _ _ (by first | exact (Below.refl _ _).drew | exact HN3.out | exact HN2.out | exact alS hHeld _ | exact hz9 | assumption) ?_
              clear hK K
              intro hHeld2
              clear hHeld
              have hHeld := hHeld2
              clear hHeld2
              try simp only [Act.put, List.setIfInBounds_toArray, List.set_cons_zero, List.set_cons_succ]
              refine take_at (i := 11) 12 (v := ?_) rfl rfl (by kernel_rfl) (by kernel_rfl) (by kernel_rfl) (fun _ _ _ h => h) (by rfl) ?_ hHeld ?_
              rotate_left
              · (intro w hSw; (try dsimp only at hSw); go_simp; try with_reducible rfl)
              simp only [Act.put, List.setIfInBounds_toArray, List.set_cons_zero, List.set_cons_succ]
              refine wpAnyH_done (by kernel_rfl) ?_ _
            all_goals
              have HZ9 : Hid (Below wq.heap.size wq z9) := hz9
              clear hz9 hcz9 hgz9
              go_wp2
              go_roundw
              case rel => exact ⟨i, by omega, by go_num, HNX2, below_next HBQ.out HZ9.out⟩
              case measure => simp [intOf]; omega
          · have HPE : Hid (PE ≠ 0) := hPZ
            clear hPZ
            go_upto_region 9 with fail
            refine wp_region_held_drew (S := (fun u => Below wq.heap.size wq u)) (by kernel_rfl) (by first | exact (Below.refl _ _).drew | exact HN3.out | exact HN2.out | exact alS hHeld _ | exact hz9 | assumption) (fun hHeld => ?_)
            refine take_at (i := 0) 39 (v := plV p A Z) rfl rfl (by kernel_rfl) (by kernel_rfl) (by kernel_rfl) (fun _ _ _ h => h) (by rfl) ?_ hHeld ?_
            · (intro w hSw; refine exec_load (by rfl) ?_; exact plLoad (HBX.out _ hSw))
            simp only [Act.put, List.setIfInBounds_toArray, List.set_cons_zero, List.set_cons_succ]
            refine take_at (i := 1) 40 (v := ?_) rfl rfl (by kernel_rfl) (by kernel_rfl) (by kernel_rfl) (fun _ _ _ h => h) (by rfl) ?_ hHeld ?_
            rotate_left
            · (intro w hSw; (try dsimp only at hSw); go_simp; try with_reducible rfl)
            simp only [Act.put, List.setIfInBounds_toArray, List.set_cons_zero, List.set_cons_succ]
            refine take_at (i := 2) 41 (v := lbV l.n l.e l.len l.i) rfl rfl (by kernel_rfl) (by kernel_rfl) (by kernel_rfl) (fun _ _ _ h => h) (by rfl) ?_ hHeld ?_
            · (intro w hSw; refine exec_load (by rfl) ?_; exact lbLoad (HFX.out _ hSw))
            simp only [Act.put, List.setIfInBounds_toArray, List.set_cons_zero, List.set_cons_succ]
            refine take_at (i := 3) 42 (v := ?_) rfl rfl (by kernel_rfl) (by kernel_rfl) (by kernel_rfl) (fun _ _ _ h => h) (by rfl) ?_ hHeld ?_
            rotate_left
            · (intro w hSw; (try dsimp only at hSw); go_simp; try with_reducible rfl)
            simp only [Act.put, List.setIfInBounds_toArray, List.set_cons_zero, List.set_cons_succ]
            refine wpAnyH_ready (rs := [4, 9]) (by kernel_rfl) (by simp) ?_
            refine AllReadyH.cons (o := _) rfl (fun K hK => ?_) ?_
            focus
              rw [if_pos (by rfl)]
              simp only [List.getElem_toArray, List.getElem_cons_zero, List.getElem_cons_succ]
              go_simp
              first | (go_at_call 51; refine Calls.mono (HPT.out _) ?_; rintro e u2 ⟨he2, hu2⟩; subst he2; have HU2 : Hid (Below _ _ u2) := hu2; have HN2 : Hid (Below wq.heap.size wq u2) := below_next hHeld hu2; clear hu2) | (go_at_call 61; refine Calls.mono (HRP.out _ hHeld) ?_; rintro e u3 hpo; have HU3 : Hid (Below _ _ u3) := hpo.bel; have HN3 : Hid (Below wq.heap.size wq u3) := below_next hHeld hpo.bel; have he9 := hpo.no HPE.out; subst he9; clear hpo)
              go_wp2_with fail
              refine hK.out _ _ (by first | exact (Below.refl _ _).drew | exact HN3.out | exact HN2.out | exact alS hHeld _ | exact hz9 | assumption) ?_
              clear hK K
              intro hHeld2
              clear hHeld
              have hHeld := hHeld2
              clear hHeld2
              try simp only [Act.put, List.setIfInBounds_toArray, List.set_cons_zero, List.set_cons_succ]
              refine wpAnyH_ready (rs := [5, 9]) (by kernel_rfl) (by simp) ?_
              refine AllReadyH.cons (o := _) rfl (fun K hK => ?_) ?_
              focus
                rw [if_pos (by rfl)]
                simp only [List.getElem_toArray, List.getElem_cons_zero, List.getElem_cons_succ]
                go_simp
                first | (go_at_call 51; refine Calls.mono (HPT.out _) ?_; rintro e u2 ⟨he2, hu2⟩; subst he2; have HU2 : Hid (Below _ _ u2) := hu2; have HN2 : Hid (Below wq.heap.size wq u2) := below_next hHeld hu2; clear hu2) | (go_at_call 61; refine Calls.mono (HRP.out _ hHeld) ?_; rintro e u3 hpo; have HU3 : Hid (Below _ _ u3) := hpo.bel; have HN3 : Hid (Below wq.heap.size wq u3) := below_next hHeld hpo.bel; have he9 := hpo.no HPE.out; subst he9; clear hpo)
                go_wp2_with fail
                refine hK.out _ _ (by first | exact (Below.refl _ _).drew | exact HN3.out | exact HN2.out | exact alS hHeld _ | exact hz9 | assumption) ?_
                clear hK K
                intro hHeld2
                clear hHeld
                have hHeld := hHeld2
                clear hHeld2
                try simp only [Act.put, List.setIfInBounds_toArray, List.set_cons_zero, List.set_cons_succ]
                refine take_at (i := 6) 38 (v := ?_) rfl rfl (by kernel_rfl) (by kernel_rfl) (by kernel_rfl) (fun _ _ _ h => h) (by rfl) ?_ hHeld ?_
                rotate_left
                · (intro w hSw; (try dsimp only at hSw); go_simp; try with_reducible rfl)
                simp only [Act.put, List.setIfInBounds_toArray, List.set_cons_zero, List.set_cons_succ]
                refine take_at (i := 7) 45 (v := ?_) rfl rfl (by kernel_rfl) (by kernel_rfl) (by kernel_rfl) (fun _ _ _ h => h) (by rfl) ?_ hHeld ?_
                rotate_left
                · (intro w hSw; (try dsimp only at hSw); go_simp; try with_reducible rfl)
                simp only [Act.put, List.setIfInBounds_toArray, List.set_cons_zero, List.set_cons_succ]
                refine take_at (i := 8) 46 (v := ?_) rfl rfl (by kernel_rfl) (by kernel_rfl) (by kernel_rfl) (fun _ _ _ h => h) (by rfl) ?_ hHeld ?_
                rotate_left
                · (intro w hSw; (try dsimp only at hSw); go_simp; try with_reducible rfl)
                simp only [Act.put, List.setIfInBounds_toArray, List.set_cons_zero, List.set_cons_succ]
                refine run_at (i := 9) rfl (by kernel_rfl) (by rfl) (fun K hK => ?_)
                simp only [List.getElem_toArray, List.getElem_cons_zero, List.getElem_cons_succ]
                go_simp
                go_wp2_with fail
                refine hK.out _ _ (by first | exact (Below.refl _ _).drew | exact HN3.out | exact HN2.out | exact alS hHeld _ | exact hz9 | assumption) ?_
                clear hK K
                intro hHeld2
                clear hHeld
                have hHeld := hHeld2
                clear hHeld2
                try simp only [Act.put, List.setIfInBounds_toArray, List.set_cons_zero, List.set_cons_succ]
                refine run_at (i := 10) rfl (by kernel_rfl) (by rfl) (fun K hK => ?_)
                simp only [List.getElem_toArray, List.getElem_cons_zero, List.getElem_cons_succ]
                ((refine wpo_storeP (W := wq) _ _ rfl _ _ _ _ _ _ (by rfl) (by rfl) (by simp [Value.oneCell']) _ _ _ _ _ _ (by first | exact heap_alloc_new _ _ | exact below_blk HU3.out (heap_alloc_new _ _) | exact below_blk (below_next HU2.out HU3.out) (heap_alloc_new _ _)) (show Below wq.heap.size wq _ from hHeld) (by first | exact HN3.out.size | exact HN2.out.size | exact Nat.le_refl _) ?_; intro z9 hz9 hcz9 hgz9))
                refine hK.out _ _ (by first | exact (Below.refl _ _).drew | exact HN3.out | exact HN2.out | exact alS hHeld _ | exact hz9 | assumption) ?_
                clear hK K
                intro hHeld2
                clear hHeld
                have hHeld := hHeld2
                clear hHeld2
                try simp only [Act.put, List.setIfInBounds_toArray, List.set_cons_zero, List.set_cons_succ]
                refine take_at (i := 11) 12 (v := ?_) rfl rfl (by kernel_rfl) (by kernel_rfl) (by kernel_rfl) (fun _ _ _ h => h) (by rfl) ?_ hHeld ?_
                rotate_left
                · (intro w hSw; (try dsimp only at hSw); go_simp; try with_reducible rfl)
                simp only [Act.put, List.setIfInBounds_toArray, List.set_cons_zero, List.set_cons_succ]
                refine wpAnyH_done (by kernel_rfl) ?_ _
              rotate_left 1
              refine AllReadyH.cons (o := _) rfl (fun K hK => ?_) AllReadyH.nil
              focus
                rw [if_pos (by rfl)]
                simp only [List.getElem_toArray, List.getElem_cons_zero, List.getElem_cons_succ]
                go_simp
                go_wp2_with fail
                refine hK.out _ _ (by first | exact (Below.refl _ _).drew | exact HN3.out | exact HN2.out | exact alS hHeld _ | exact hz9 | assumption) ?_
                clear hK K
                intro hHeld2
                clear hHeld
                have hHeld := hHeld2
                clear hHeld2
                try simp only [Act.put, List.setIfInBounds_toArray, List.set_cons_zero, List.set_cons_succ]
                refine run_at (i := 5) rfl (by kernel_rfl) (by rfl) (fun K hK => ?_)
                simp only [List.getElem_toArray, List.getElem_cons_zero, List.getElem_cons_succ]
                go_simp
                first | (go_at_call 51; refine Calls.mono (HPT.out _) ?_; rintro e u2 ⟨he2, hu2⟩; subst he2; have HU2 : Hid (Below _ _ u2) := hu2; have HN2 : Hid (Below wq.heap.size wq u2) := below_next hHeld hu2; clear hu2) | (go_at_call 61; refine Calls.mono (HRP.out _ hHeld) ?_; rintro e u3 hpo; have HU3 : Hid (Below _ _ u3) := hpo.bel; have HN3 : Hid (Below wq.heap.size wq u3) := below_next hHeld hpo.bel; have he9 := hpo.no HPE.out; subst he9; clear hpo)
                go_wp2_with fail
                refine hK.out _ _ (by first | exact (Below.refl _ _).drew | exact HN3.out | exact HN2.out | exact alS hHeld _ | exact hz9 | assumption) ?_
                clear hK K
                intro hHeld2
                clear hHeld
                have hHeld := hHeld2
                clear hHeld2
                try simp only [Act.put, List.setIfInBounds_toArray, List.set_cons_zero, List.set_cons_succ]
                refine take_at (i := 6) 38 (v := ?_) rfl rfl (by kernel_rfl) (by kernel_rfl) (by kernel_rfl) (fun _ _ _ h => h) (by rfl) ?_ hHeld ?_
                rotate_left
                · (intro w hSw; (try dsimp only at hSw); go_simp; try with_reducible rfl)
                simp only [Act.put, List.setIfInBounds_toArray, List.set_cons_zero, List.set_cons_succ]
                refine take_at (i := 7) 45 (v := ?_) rfl rfl (by kernel_rfl) (by kernel_rfl) (by kernel_rfl) (fun _ _ _ h => h) (by rfl) ?_ hHeld ?_
                rotate_left
                · (intro w hSw; (try dsimp only at hSw); go_simp; try with_reducible rfl)
                simp only [Act.put, List.setIfInBounds_toArray, List.set_cons_zero, List.set_cons_succ]
                refine take_at (i := 8) 46 (v := ?_) rfl rfl (by kernel_rfl) (by kernel_rfl) (by kernel_rfl) (fun _ _ _ h => h) (by rfl) ?_ hHeld ?_
                rotate_left
                · (intro w hSw; (try dsimp only at hSw); go_simp; try with_reducible rfl)
                simp only [Act.put, List.setIfInBounds_toArray, List.set_cons_zero, List.set_cons_succ]
                refine run_at (i := 10) rfl (by kernel_rfl) (by rfl) (fun K hK => ?_)
                simp only [List.getElem_toArray, List.getElem_cons_zero, List.getElem_cons_succ]
                ((refine wpo_storeP (W := wq) _ _ rfl _ _ _ _ _ _ (by rfl) (by rfl) (by simp [Value.oneCell']) _ _ _ _ _ _ (by first | exact heap_alloc_new _ _ | exact below_blk HU3.out (heap_alloc_new _ _) | exact below_blk (below_next HU2.out HU3.out) (heap_alloc_new _ _)) (show Below wq.heap.size wq _ from hHeld) (by first | exact HN3.out.size | exact HN2.out.size | exact Nat.le_refl _) ?_; intro z9 hz9 hcz9 hgz9))
                refine hK.out _ _ (by first | exact (Below.refl _ _).drew | exact HN3.out | exact HN2.out | exact alS hHeld _ | exact hz9 | assumption) ?_
                clear hK K
                intro hHeld2
                clear hHeld
                have hHeld := hHeld2
                clear hHeld2
                try simp only [Act.put, List.setIfInBounds_toArray, List.set_cons_zero, List.set_cons_succ]
                refine take_at (i := 11) 12 (v := ?_) rfl rfl (by kernel_rfl) (by kernel_rfl) (by kernel_rfl) (fun _ _ _ h => h) (by rfl) ?_ hHeld ?_
                rotate_left
                · (intro w hSw; (try dsimp only at hSw); go_simp; try with_reducible rfl)
                simp only [Act.put, List.setIfInBounds_toArray, List.set_cons_zero, List.set_cons_succ]
                refine wpAnyH_done (by kernel_rfl) ?_ _
            rotate_left 2
            refine AllReadyH.cons (o := _) rfl (fun K hK => ?_) AllReadyH.nil
            focus
              rw [if_pos (by rfl)]
              simp only [List.getElem_toArray, List.getElem_cons_zero, List.getElem_cons_succ]
              go_simp
              go_wp2_with fail
              refine hK.out _ _ (by first | exact (Below.refl _ _).drew | exact HN3.out | exact HN2.out | exact alS hHeld _ | exact hz9 | assumption) ?_
              clear hK K
              intro hHeld2
              clear hHeld
              have hHeld := hHeld2
              clear hHeld2
              try simp only [Act.put, List.setIfInBounds_toArray, List.set_cons_zero, List.set_cons_succ]
              refine run_at (i := 4) rfl (by kernel_rfl) (by rfl) (fun K hK => ?_)
              simp only [List.getElem_toArray, List.getElem_cons_zero, List.getElem_cons_succ]
              go_simp
              first | (go_at_call 51; refine Calls.mono (HPT.out _) ?_; rintro e u2 ⟨he2, hu2⟩; subst he2; have HU2 : Hid (Below _ _ u2) := hu2; have HN2 : Hid (Below wq.heap.size wq u2) := below_next hHeld hu2; clear hu2) | (go_at_call 61; refine Calls.mono (HRP.out _ hHeld) ?_; rintro e u3 hpo; have HU3 : Hid (Below _ _ u3) := hpo.bel; have HN3 : Hid (Below wq.heap.size wq u3) := below_next hHeld hpo.bel; have he9 := hpo.no HPE.out; subst he9; clear hpo)
              go_wp2_with fail
              refine hK.out _ _ (by first | exact (Below.refl _ _).drew | exact HN3.out | exact HN2.out | exact alS hHeld _ | exact hz9 | assumption) ?_
              clear hK K
              intro hHeld2
              clear hHeld
              have hHeld := hHeld2
              clear hHeld2
              try simp only [Act.put, List.setIfInBounds_toArray, List.set_cons_zero, List.set_cons_succ]
              refine run_at (i := 5) rfl (by kernel_rfl) (by rfl) (fun K hK => ?_)
              simp only [List.getElem_toArray, List.getElem_cons_zero, List.getElem_cons_succ]
              go_simp
              first | (go_at_call 51; refine Calls.mono (HPT.out _) ?_; rintro e u2 ⟨he2, hu2⟩; subst he2; have HU2 : Hid (Below _ _ u2) := hu2; have HN2 : Hid (Below wq.heap.size wq u2) := below_next hHeld hu2; clear hu2) | (go_at_call 61; refine Calls.mono (HRP.out _ hHeld) ?_; rintro e u3 hpo; have HU3 : Hid (Below _ _ u3) := hpo.bel; have HN3 : Hid (Below wq.heap.size wq u3) := below_next hHeld hpo.bel; have he9 := hpo.no HPE.out; subst he9; clear hpo)
              go_wp2_with fail
              refine hK.out _ _ (by first | exact (Below.refl _ _).drew | exact HN3.out | exact HN2.out | exact alS hHeld _ | exact hz9 | assumption) ?_
              clear hK K
              intro hHeld2
              clear hHeld
              have hHeld := hHeld2
              clear hHeld2
              try simp only [Act.put, List.setIfInBounds_toArray, List.set_cons_zero, List.set_cons_succ]
              refine take_at (i := 6) 38 (v := ?_) rfl rfl (by kernel_rfl) (by kernel_rfl) (by kernel_rfl) (fun _ _ _ h => h) (by rfl) ?_ hHeld ?_
              rotate_left
              · (intro w hSw; (try dsimp only at hSw); go_simp; try with_reducible rfl)
              simp only [Act.put, List.setIfInBounds_toArray, List.set_cons_zero, List.set_cons_succ]
              refine take_at (i := 7) 45 (v := ?_) rfl rfl (by kernel_rfl) (by kernel_rfl) (by kernel_rfl) (fun _ _ _ h => h) (by rfl) ?_ hHeld ?_
              rotate_left
              · (intro w hSw; (try dsimp only at hSw); go_simp; try with_reducible rfl)
              simp only [Act.put, List.setIfInBounds_toArray, List.set_cons_zero, List.set_cons_succ]
              refine take_at (i := 8) 46 (v := ?_) rfl rfl (by kernel_rfl) (by kernel_rfl) (by kernel_rfl) (fun _ _ _ h => h) (by rfl) ?_ hHeld ?_
              rotate_left
              · (intro w hSw; (try dsimp only at hSw); go_simp; try with_reducible rfl)
              simp only [Act.put, List.setIfInBounds_toArray, List.set_cons_zero, List.set_cons_succ]
              refine run_at (i := 10) rfl (by kernel_rfl) (by rfl) (fun K hK => ?_)
              simp only [List.getElem_toArray, List.getElem_cons_zero, List.getElem_cons_succ]
              ((refine wpo_storeP (W := wq) _ _ rfl _ _ _ _ _ _ (by rfl) (by rfl) (by simp [Value.oneCell']) _ _ _ _ _ _ (by first | exact heap_alloc_new _ _ | exact below_blk HU3.out (heap_alloc_new _ _) | exact below_blk (below_next HU2.out HU3.out) (heap_alloc_new _ _)) (show Below wq.heap.size wq _ from hHeld) (by first | exact HN3.out.size | exact HN2.out.size | exact Nat.le_refl _) ?_; intro z9 hz9 hcz9 hgz9))
              refine hK.out _ _ (by first | exact (Below.refl _ _).drew | exact HN3.out | exact HN2.out | exact alS hHeld _ | exact hz9 | assumption) ?_
              clear hK K
              intro hHeld2
              clear hHeld
              have hHeld := hHeld2
              clear hHeld2
              try simp only [Act.put, List.setIfInBounds_toArray, List.set_cons_zero, List.set_cons_succ]
              refine take_at (i := 11) 12 (v := ?_) rfl rfl (by kernel_rfl) (by kernel_rfl) (by kernel_rfl) (fun _ _ _ h => h) (by rfl) ?_ hHeld ?_
              rotate_left
              · (intro w hSw; (try dsimp only at hSw); go_simp; try with_reducible rfl)
              simp only [Act.put, List.setIfInBounds_toArray, List.set_cons_zero, List.set_cons_succ]
              refine wpAnyH_done (by kernel_rfl) ?_ _
            all_goals
              have HZ9 : Hid (Below wr.heap.size wr z9) := below_next HBR.out (below_next HBQ.out hz9)
              have hPb : (PE != 0) = true := by simpa using HPE.out
              have HRES : Hid (stS d A Z h = (acc, nx)) := HST.out (.inr (.inl (by rw [ptsE_fail (k := i) (by rw [HNX.out]; exact HPE.out) (M - 1) (by omega), HNX.out]; exact HPE.out)))
              clear hz9 hcz9 hgz9
              go_wp2
              go_ret2
              exact ⟨⟨_, by rw [HRES.out]; rfl, by rw [HRES.out]; exact ((HO.out.below HZ9.out).base HB0.out.size)⟩, below_next HB0.out (below_next HB.out HZ9.out)⟩
        · obtain rfl : i = M := by have := HIK.out; omega
          have hltI : ¬ (i : Int) < (i : Int) := by omega
          have HPQ : Hid (ptsE d A Z l (i - 1) = 0) := by
            have h9 : i - 1 = q := by have := HIK.out; omega
            unfold Hid
            rw [h9]
            exact HPZ.out
          have hmw : IntKind.u64.wrap (i : Int) = (i : Int) := by rw [IntKind.wrap_u64]; have := HLT.out; omega
          obtain ⟨en, hen⟩ : ∃ en, en = nx + i := ⟨_, rfl⟩
          have henw : IntKind.u64.wrap ((nx : Int) + (i : Int)) = (en : Int) := by rw [IntKind.wrap_u64]; have := HLT.out; omega
          have HEN : Hid (en = nx + i) := hen
          clear hen
          go_upto_region 12 with fail
          by_cases htp : top < en
          · have htI : (top : Int) < (en : Int) := by omega
            refine wp_region_held_drew (S := (fun u => Below wq.heap.size wq u)) (by kernel_rfl) (by first | exact (Below.refl _ _).drew | exact HN4.out | assumption) (fun hHeld => ?_)
            refine take_at (i := 0) 53 (v := ?_) rfl rfl (by kernel_rfl) (by kernel_rfl) (by kernel_rfl) (fun _ _ _ h => h) (by rfl) ?_ hHeld ?_
            rotate_left
            · (intro w hSw; (try dsimp only at hSw); go_simp; try with_reducible rfl)
            simp only [Act.put, List.setIfInBounds_toArray, List.set_cons_zero, List.set_cons_succ]
            refine take_at (i := 1) 54 (v := ?_) rfl rfl (by kernel_rfl) (by kernel_rfl) (by kernel_rfl) (fun _ _ _ h => h) (by rfl) ?_ hHeld ?_
            rotate_left
            · (intro w hSw; (try dsimp only at hSw); go_simp; try with_reducible rfl)
            simp only [Act.put, List.setIfInBounds_toArray, List.set_cons_zero, List.set_cons_succ]
            refine take_at (i := 2) 55 (v := .int .u64 (h.f : Int)) rfl rfl (by kernel_rfl) (by kernel_rfl) (by kernel_rfl) (fun _ _ _ h => h) (by rfl) ?_ hHeld ?_
            · (intro w hSw; have hc9 := (cells4 (HHX.out _ hSw)).2.2.1; go_simp; try with_reducible rfl)
            simp only [Act.put, List.setIfInBounds_toArray, List.set_cons_zero, List.set_cons_succ]
            refine take_at (i := 3) 56 (v := plV p A Z) rfl rfl (by kernel_rfl) (by kernel_rfl) (by kernel_rfl) (fun _ _ _ h => h) (by rfl) ?_ hHeld ?_
            · (intro w hSw; refine exec_load (by rfl) ?_; exact plLoad (HBX.out _ hSw))
            simp only [Act.put, List.setIfInBounds_toArray, List.set_cons_zero, List.set_cons_succ]
            refine run_at (i := 4) rfl (by kernel_rfl) (by rfl) (fun K hK => ?_)
            simp only [List.getElem_toArray, List.getElem_cons_zero, List.getElem_cons_succ]
            go_simp
            (go_at_call 32; refine Calls.mono (HRG.out _) ?_; rintro e y4 ⟨he4, hy4⟩; subst he4; have HN4 : Hid (Below wq.heap.size wq y4) := below_next (Below.refl _ _).drew hy4; clear hy4)
            go_wp2_with fail
            refine hK.out _ _ (by first | exact (Below.refl _ _).drew | exact HN4.out | assumption) ?_
            clear hK K
            intro hHeld2
            clear hHeld
            have hHeld := hHeld2
            clear hHeld2
            try simp only [Act.put, List.setIfInBounds_toArray, List.set_cons_zero, List.set_cons_succ]
            refine take_at (i := 5) 58 (v := ?_) rfl rfl (by kernel_rfl) (by kernel_rfl) (by kernel_rfl) (fun _ _ _ h => h) (by rfl) ?_ hHeld ?_
            rotate_left
            · (intro w hSw; (try dsimp only at hSw); go_simp; try with_reducible rfl)
            simp only [Act.put, List.setIfInBounds_toArray, List.set_cons_zero, List.set_cons_succ]
            refine take_at (i := 6) 59 (v := ?_) rfl rfl (by kernel_rfl) (by kernel_rfl) (by kernel_rfl) (fun _ _ _ h => h) (by rfl) ?_ hHeld ?_
            rotate_left
            · (intro w hSw; (try dsimp only at hSw); go_simp; try with_reducible rfl)
            simp only [Act.put, List.setIfInBounds_toArray, List.set_cons_zero, List.set_cons_succ]
            refine wpAnyH_done (by kernel_rfl) ?_ _
            have HRES : Hid (stS d A Z h = (acc, nx)) := HST.out (.inr (.inr (by rw [← HEN.out]; exact htp)))
            have HZ9 : Hid (Below wr.heap.size wr y4) := below_next HBR.out (below_next HBQ.out HN4.out)
            go_wp2
            go_ret2
            exact ⟨⟨_, by rw [HRES.out]; rfl, by rw [HRES.out]; exact ((HO.out.below HZ9.out).base HB0.out.size)⟩, below_next HB0.out (below_next HB.out HZ9.out)⟩
          · have htI : ¬ (top : Int) < (en : Int) := by omega
            have HTE : Hid (en ≤ top) := by unfold Hid; omega
            refine wp_region_held_drew (S := (fun u => Below wq.heap.size wq u)) (by kernel_rfl) (by first | exact (Below.refl _ _).drew | exact HN4.out | assumption) (fun hHeld => ?_)
            refine take_at (i := 0) 53 (v := ?_) rfl rfl (by kernel_rfl) (by kernel_rfl) (by kernel_rfl) (fun _ _ _ h => h) (by rfl) ?_ hHeld ?_
            rotate_left
            · (intro w hSw; (try dsimp only at hSw); go_simp; try with_reducible rfl)
            simp only [Act.put, List.setIfInBounds_toArray, List.set_cons_zero, List.set_cons_succ]
            refine take_at (i := 1) 54 (v := ?_) rfl rfl (by kernel_rfl) (by kernel_rfl) (by kernel_rfl) (fun _ _ _ h => h) (by rfl) ?_ hHeld ?_
            rotate_left
            · (intro w hSw; (try dsimp only at hSw); go_simp; try with_reducible rfl)
            simp only [Act.put, List.setIfInBounds_toArray, List.set_cons_zero, List.set_cons_succ]
            refine take_at (i := 2) 55 (v := .int .u64 (h.f : Int)) rfl rfl (by kernel_rfl) (by kernel_rfl) (by kernel_rfl) (fun _ _ _ h => h) (by rfl) ?_ hHeld ?_
            · (intro w hSw; have hc9 := (cells4 (HHX.out _ hSw)).2.2.1; go_simp; try with_reducible rfl)
            simp only [Act.put, List.setIfInBounds_toArray, List.set_cons_zero, List.set_cons_succ]
            refine take_at (i := 3) 56 (v := plV p A Z) rfl rfl (by kernel_rfl) (by kernel_rfl) (by kernel_rfl) (fun _ _ _ h => h) (by rfl) ?_ hHeld ?_
            · (intro w hSw; refine exec_load (by rfl) ?_; exact plLoad (HBX.out _ hSw))
            simp only [Act.put, List.setIfInBounds_toArray, List.set_cons_zero, List.set_cons_succ]
            refine run_at (i := 4) rfl (by kernel_rfl) (by rfl) (fun K hK => ?_)
            simp only [List.getElem_toArray, List.getElem_cons_zero, List.getElem_cons_succ]
            go_simp
            (go_at_call 32; refine Calls.mono (HRG.out _) ?_; rintro e y4 ⟨he4, hy4⟩; subst he4; have HN4 : Hid (Below wq.heap.size wq y4) := below_next (Below.refl _ _).drew hy4; clear hy4)
            go_wp2_with fail
            refine hK.out _ _ (by first | exact (Below.refl _ _).drew | exact HN4.out | assumption) ?_
            clear hK K
            intro hHeld2
            clear hHeld
            have hHeld := hHeld2
            clear hHeld2
            try simp only [Act.put, List.setIfInBounds_toArray, List.set_cons_zero, List.set_cons_succ]
            refine take_at (i := 5) 58 (v := ?_) rfl rfl (by kernel_rfl) (by kernel_rfl) (by kernel_rfl) (fun _ _ _ h => h) (by rfl) ?_ hHeld ?_
            rotate_left
            · (intro w hSw; (try dsimp only at hSw); go_simp; try with_reducible rfl)
            simp only [Act.put, List.setIfInBounds_toArray, List.set_cons_zero, List.set_cons_succ]
            refine take_at (i := 6) 59 (v := ?_) rfl rfl (by kernel_rfl) (by kernel_rfl) (by kernel_rfl) (fun _ _ _ h => h) (by rfl) ?_ hHeld ?_
            rotate_left
            · (intro w hSw; (try dsimp only at hSw); go_simp; try with_reducible rfl)
            simp only [Act.put, List.setIfInBounds_toArray, List.set_cons_zero, List.set_cons_succ]
            refine wpAnyH_done (by kernel_rfl) ?_ _
            have HZ4 : Hid (Below wr.heap.size wr y4) := below_next HBR.out (below_next HBQ.out HN4.out)
            have HOW : Hid (∀ ob, OwnG KS (y4.alloc ob) W0.heap.size u4 acc) := fun ob => (HO.out.below HZ4.out).below (alS (Below.refl _ _) ob)
            have HSZ : Hid (W0.heap.size ≤ y4.heap.size) := Nat.le_trans HB.out.size HZ4.out.size
            have HF4 : Hid (y4.heap[g0]? = some (.cells #[.int .u64 (l.n : Int), .int .u64 (l.e : Int), .int .i64 (l.len : Int), .int .i64 (l.i : Int), .slice a Y.length c] tPc (0, 0))) := HFX.out y4 HN4.out
            have HKL : Hid (k = acc.length ∧ k ≤ 65536) := ⟨HK.out.2.2.1.symm, by have := HK.out; have := HTB.out; omega⟩
            obtain ⟨f0, f1, f2, f3, f4⟩ := cells5 HF4.out
            go_upto_region 14 with (at_builtin; refine wp_appG1 (K := KS) rfl _ _ rfl W0.heap.size u4 acc ⟨nx, l.e⟩ k HKL.out.1 _ 1 rfl (HOW.out _) (by rfl) (rdG_lit (K := KS) (heap_alloc_new y4 _) rfl) (by have := HKL.out.2; show (k + 1) * 16 ≤ _; omega) (by have := HKL.out.2; simp only [maxLen]; omega) (Nat.le_trans HSZ.out (by simp)) ?_; intro gq cq w9 hown9 hg9 hw9; have HO9 : Hid (OwnG KS w9 W0.heap.size (.slice (some ⟨gq, 0, none⟩) (k + 1) cq) (acc ++ [⟨nx, l.e⟩])) := hown9; have HG9 : Hid (World.grownBy _ w9 u4.ownBlock) := hg9; clear hown9 hg9 hw9)
            have HF9 : Hid (∀ u, Below w9.heap.size w9 u → u.heap[g0]? = some (.cells #[.int .u64 (l.n : Int), .int .u64 (l.e : Int), .int .i64 (l.len : Int), .int .i64 (l.i : Int), .slice a Y.length c] tPc (0, 0))) := fun u hu => by
              refine below_blk hu ?_
              have h8 := below_blk (alS (Below.refl _ _) (.cells #[.int .u64 (nx : Int), .int .u64 (l.e : Int)] 79)) HF4.out
              refine (HG9.out.block g0 (Array.getElem?_eq_some_iff.1 h8).1 (fun e => ?_)).trans h8
              obtain ⟨cur, h7⟩ := (HOW.out (.cells #[.int .u64 (nx : Int), .int .u64 (l.e : Int)] 79)).at_ e.symm
              rw [h8] at h7
              simp only [Option.some.injEq, Obj.cells.injEq] at h7
              exact absurd h7.2.1 (by decide)
            have HB9 : Hid (Below W0.heap.size W0 w9) := (below_next (below_next HB.out HZ4.out) (alS (Below.refl _ _) _)).grown HG9.out (below_next (below_next HB.out HZ4.out) (alS (Below.refl _ _) _)).size (fun b e => (HO.out.lt' e).1)
            clear f0 f1 f2 f3 f4
            refine wp_region_held_drew (S := (fun u => Below w9.heap.size w9 u)) (by kernel_rfl) (by first | exact (Below.refl _ _).drew | assumption) (fun hHeld => ?_)
            refine take_at (i := 0) 68 (v := ?_) rfl rfl (by kernel_rfl) (by kernel_rfl) (by kernel_rfl) (fun _ _ _ h => h) (by rfl) ?_ hHeld ?_
            rotate_left
            · (intro w hSw; (try dsimp only at hSw); go_simp; try with_reducible rfl)
            simp only [Act.put, List.setIfInBounds_toArray, List.set_cons_zero, List.set_cons_succ]
            refine take_at (i := 1) 69 (v := ?_) rfl rfl (by kernel_rfl) (by kernel_rfl) (by kernel_rfl) (fun _ _ _ h => h) (by rfl) ?_ hHeld ?_
            rotate_left
            · (intro w hSw; (try dsimp only at hSw); go_simp; try with_reducible rfl)
            simp only [Act.put, List.setIfInBounds_toArray, List.set_cons_zero, List.set_cons_succ]
            refine take_at (i := 2) 70 (v := ?_) rfl rfl (by kernel_rfl) (by kernel_rfl) (by kernel_rfl) (fun _ _ _ h => h) (by rfl) ?_ hHeld ?_
            rotate_left
            · (intro w hSw; (try dsimp only at hSw); go_simp; try with_reducible rfl)
            simp only [Act.put, List.setIfInBounds_toArray, List.set_cons_zero, List.set_cons_succ]
            refine take_at (i := 3) 71 (v := .int .u64 (l.e : Int)) rfl rfl (by kernel_rfl) (by kernel_rfl) (by kernel_rfl) (fun _ _ _ h => h) (by rfl) ?_ hHeld ?_
            · (intro w hSw; have hc9 := (cells5 (HF9.out _ hSw)).2.1; go_simp; try with_reducible rfl)
            simp only [Act.put, List.setIfInBounds_toArray, List.set_cons_zero, List.set_cons_succ]
            refine take_at (i := 4) 5 (v := ?_) rfl rfl (by kernel_rfl) (by kernel_rfl) (by kernel_rfl) (fun _ _ _ h => h) (by rfl) ?_ hHeld ?_
            rotate_left
            · (intro w hSw; (try dsimp only at hSw); go_simp; try with_reducible rfl)
            simp only [Act.put, List.setIfInBounds_toArray, List.set_cons_zero, List.set_cons_succ]
            refine take_at (i := 5) 6 (v := ?_) rfl rfl (by kernel_rfl) (by kernel_rfl) (by kernel_rfl) (fun _ _ _ h => h) (by rfl) ?_ hHeld ?_
            rotate_left
            · (intro w hSw; (try dsimp only at hSw); go_simp; try with_reducible rfl)
            simp only [Act.put, List.setIfInBounds_toArray, List.set_cons_zero, List.set_cons_succ]
            refine wpAnyH_done (by kernel_rfl) ?_ _
            go_wp2
            go_roundw
            case rel =>
              refine ⟨k + 1, en, l.e, acc ++ [⟨nx, l.e⟩], by first | rfl | go_num, by first | rfl | go_num, ⟨?_, HTE.out, ?_, ?_⟩, HO9.out.below (Below.refl _ _).drew, HB9.out.drew⟩
              · have := HK.out.1; have := HEN.out; have := HLZ.out.2.2; omega
              · rw [List.length_append, ← HKL.out.1]; rfl
              · rw [HGO.out (by rintro (h9 | h9 | h9); exact h9 HEZ.out; exact h9 HPQ.out; exact absurd h9 (by have := HTE.out; have := HEN.out; omega)), HEN.out, show Z + 1 - (k + 1) = r by have := HR1.out; omega]
            case measure => have := HEN.out; have := HLZ.out.2.2; have := HTE.out; simp [intOf]; omega
    · have he := hpo.no hE
      subst he
      have hEb : (FE != 0) = true := by simpa using hE
      have HRES : Hid (stS d A Z h = (acc, nx)) := HST.out (.inl hE)
      have HZ9 : Hid (Below wr.heap.size wr (u1.alloc (.cells pcC0 tPc))) := below_next hpo.bel (alS (Below.refl _ _) _)
      clear hpo hE b0 b1 b2 e0 e1 e2 e3
      go_wp2
      go_ret2
      exact ⟨⟨_, by rw [HRES.out]; rfl, by rw [HRES.out]; exact ((HO.out.below HZ9.out).base HB0.out.size)⟩, below_next HB0.out (below_next HB.out HZ9.out)⟩
end Go.Proofs.YtibepnilhmbpeaaDoor
namespace Go.Proofs.YtibepnilhmbpeaaDoor
set_option linter.unusedVariables false
set_option linter.unusedSimpArgs false
open Go.RowKit
theorem nanU_t (x : Nat) (w : World) : Calls Tryd.prog 75 #[.int .u64 (x : Int)] w fun e w' => e = .returned (.bool false) ∧ w' = w := by
  go_enter Tryd.func75, Tryd.ntmps75
  go_wp2
  go_ret
  exact ⟨by first | rfl | simp, rfl⟩
def cmpN (x y : Nat) : Int := if x < y then -1 else if y < x then 1 else 0
theorem cmpU_t (x y : Nat) (w : World) : Calls Tryd.prog 65 #[.int .u64 (x : Int), .int .u64 (y : Int)] w fun e w' => e = .returned (.int .i64 (cmpN x y)) ∧ w' = w := by
  have H1 : Hid (∀ z : Nat, Calls _ _ _ w _) := fun z => nanU_t z w
  by_cases h1 : x < y
  · have h1I : (x : Int) < (y : Int) := by omega
    have HC : Hid (cmpN x y = -1) := if_pos h1
    clear h1
    go_enter Tryd.func65, Tryd.ntmps65
    go_wp2_with (go_at_call 75; refine Calls.mono (H1.out _) ?_; rintro e w' ⟨rfl, hq⟩; have hq := hq.symm; subst hq)
    go_ret
    exact ⟨by rw [HC.out]; rfl, rfl⟩
  · have h1I : ¬ (x : Int) < (y : Int) := by omega
    by_cases h2 : y < x
    · have h2I : (y : Int) < (x : Int) := by omega
      have HC : Hid (cmpN x y = 1) := by unfold Hid cmpN; rw [if_neg h1, if_pos h2]
      clear h1 h2
      go_enter Tryd.func65, Tryd.ntmps65
      go_wp2_with (go_at_call 75; refine Calls.mono (H1.out _) ?_; rintro e w' ⟨rfl, hq⟩; have hq := hq.symm; subst hq)
      go_ret
      exact ⟨by rw [HC.out]; rfl, rfl⟩
    · have h2I : ¬ (y : Int) < (x : Int) := by omega
      have HC : Hid (cmpN x y = 0) := by unfold Hid cmpN; rw [if_neg h1, if_neg h2]
      clear h1 h2
      go_enter Tryd.func65, Tryd.ntmps65
      go_wp2_with (go_at_call 75; refine Calls.mono (H1.out _) ?_; rintro e w' ⟨rfl, hq⟩; have hq := hq.symm; subst hq)
      go_ret
      exact ⟨by rw [HC.out]; rfl, rfl⟩
theorem find1_t (s : Sta) (n : Nat) (w : World) : Calls Tryd.prog 64 #[.agg #[.int .u64 (s.n : Int), .int .u64 (s.e : Int)], .int .u64 (n : Int)] w fun e w' => e = .returned (.int .i64 (cmpN s.n n)) ∧ Below w.heap.size w w' := by
  have H1 : Hid (∀ u, Calls _ _ _ u _) := fun u => cmpU_t s.n n u
  go_enter Tryd.func64, Tryd.ntmps64
  go_wp2_with (go_at_call 65; refine Calls.mono (H1.out _) ?_; rintro e w' ⟨rfl, hq⟩; have hq := hq.symm; subst hq)
  go_ret
  exact ⟨rfl, alS (Below.refl _ _) _⟩
end Go.Proofs.YtibepnilhmbpeaaDoor
