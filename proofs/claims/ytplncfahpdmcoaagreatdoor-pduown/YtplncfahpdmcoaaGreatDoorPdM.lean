import Derived.Test.YtplncfahpdmcoaaGreatDoorGEnd
import Derived.Test.YtplncfahpdmcoaaGreatDoorUT
import Derived.Test.YtplncfahpdmcoaaGreatDoorGTot
import Derived.Test.YtplncfahpdmcoaaGreatDoorGRMiss
namespace Go.Proofs.YtplncfahpdmcoaaGreatDoor
set_option linter.unusedVariables false
set_option linter.unusedSimpArgs false
open Go.RowKit
set_option maxRecDepth 20000
theorem splice_len (L : List Value) (o : Nat) (cs : List Value) (h : o + cs.length ≤ L.length) : (splice L o cs).length = L.length := by unfold splice; simp; omega
theorem splice_get (L : List Value) (o : Nat) (cs : List Value) (h : o + cs.length ≤ L.length) (j : Nat) : (splice L o cs)[j]? = if o ≤ j ∧ j < o + cs.length then cs[j - o]? else L[j]? := by
  unfold splice
  by_cases h1 : j < o
  · rw [if_neg (by omega), List.getElem?_append_left (by simp; omega), List.getElem?_take, if_pos h1]
  · by_cases h2 : j < o + cs.length
    · rw [if_pos ⟨by omega, h2⟩, List.getElem?_append_right (by simp; omega)]
      simp only [List.length_take, Nat.min_eq_left (show o ≤ L.length by omega)]
      rw [List.getElem?_append_left (by omega)]
    · rw [if_neg (by omega), List.getElem?_append_right (by simp; omega)]
      simp only [List.length_take, Nat.min_eq_left (show o ≤ L.length by omega)]
      rw [List.getElem?_append_right (by omega), List.getElem?_drop]
      congr 1
      omega
theorem splice_take (L : List Value) (o m : Nat) (cs : List Value) (h : o + cs.length ≤ m) (hm : m ≤ L.length) : (splice L o cs).take m = splice (L.take m) o cs := by
  apply List.ext_getElem?
  intro j
  rw [List.getElem?_take, splice_get _ _ _ (by omega), splice_get _ _ _ (by simp; omega), List.getElem?_take]
  by_cases h1 : j < m
  · rw [if_pos h1, if_pos h1]
  · rw [if_neg h1, if_neg h1, if_neg (by omega)]
theorem ownS_set {w : World} {B e s g n cap : Nat} {xs : List Value} (h : w.ownsRow B e s (.slice (some ⟨g, 0, none⟩) n cap) n xs) (j : Nat) (hj : j < n) (us : List Value) (hu : us.length = s) : (w.setCells g (j * s) us).ownsRow B e s (.slice (some ⟨g, 0, none⟩) n cap) n (splice xs (j * s) us) ∧ w.grownBy (w.setCells g (j * s) us) (some g) := by
  refine ⟨?_, setCells_grown g us (j * s) w⟩
  have hjs : j * s + s ≤ n * s := by rw [← Nat.succ_mul]; exact Nat.mul_le_mul_right _ hj
  rcases h.2 with ⟨e, -⟩ | ⟨g', cap', cur, e, hB, hg, hnc, hcm, hcs, ht⟩
  · cases e
  · cases e
    have hn : n * s ≤ cur.size := by rw [hcs]; exact Nat.mul_le_mul_right _ hnc
    have h1 := heap_setCells g _ us (j * s) cur.toList w (by simpa using hg) (by simp; omega)
    refine ⟨by rw [splice_len _ _ _ (by rw [h.1]; omega)]; exact h.1, .inr ⟨g, cap, _, rfl, hB, h1, hnc, hcm, ?_, ?_⟩⟩
    · simp only [List.size_toArray]
      rw [splice_len _ _ _ (by simp; omega)]
      simpa using hcs
    · simp only
      rw [splice_take _ _ _ _ (by omega) (by simp; omega), ht]
variable {W w w' : World} {F : KeyS → RowS}
/-- an element of a row is written -/
theorem Fw.mark (h : Fw W w F) (x : KeyS) (g cap : Nat) (hv : (F x).v = .slice (some ⟨g, 0, none⟩) (F x).n cap) (j : Nat) (hj : j < (F x).n) (us : List Value) (hu : us.length = (F x).s) : Fw W (w.setCells g (j * (F x).s) us) (updR F x ⟨(F x).e, (F x).s, (F x).v, (F x).n, splice (F x).xs (j * (F x).s) us⟩) := by
  have h0 : w.ownsRow W.heap.size (F x).e (F x).s (.slice (some ⟨g, 0, none⟩) (F x).n cap) (F x).n (F x).xs := by rw [← hv]; exact h.fam.own x
  have h1 := ownS_set h0 j hj us hu
  refine h.step x (by rw [hv]; exact h1.2) _ ?_ (.inl rfl)
  unfold RowS.at
  simp only
  rw [hv]
  exact h1.1
/-- element s of a row -/
def elt (r : RowS) (j : Nat) : List Value := (r.xs.drop (j * r.s)).take r.s
/-- so far the rows of a kind are marked -/
def MkS (kk : Nat) (mf : Nat → List Value) (F : KeyS → RowS) (k t : Nat) : Prop := ∀ i j, (i < k ∨ (i = k ∧ j < t)) → j < (F (kk, i)).n → ∀ q, q < (F (kk, i)).s → (F (kk, i)).xs[j * (F (kk, i)).s + q]? = (mf i)[q]?
theorem MkS.start (kk : Nat) (mf : Nat → List Value) (F : KeyS → RowS) : MkS kk mf F 0 0 := fun i j h => by omega
theorem MkS.next {kk : Nat} {mf : Nat → List Value} {k t : Nat} (h : MkS kk mf F k t) (ht : (F (kk, k)).n ≤ t) : MkS kk mf F (k + 1) 0 := by
  intro i j hi hj
  refine h i j ?_ hj
  rcases hi with hi | hi
  · by_cases e : i = k
    · subst e; right; exact ⟨rfl, by omega⟩
    · left; omega
  · omega
theorem MkS.other {kk k2 : Nat} {mf : Nat → List Value} {n k : Nat} {r : RowS} (h : MkS kk mf F n 0) (hne : kk ≠ k2) : MkS kk mf (updR F (k2, k) r) n 0 := by
  intro i s hi hs
  rw [updR_other _ (by intro e; cases e; exact hne rfl)] at hs ⊢
  exact h i s hi hs
theorem mul_ne_add {s a b q r : Nat} (hq : q < s) (hr : r < s) (h : a * s + q = b * s + r) : a = b := by
  rcases Nat.lt_trichotomy a b with h1 | h1 | h1
  · have := Nat.mul_le_mul_right s (show a + 1 ≤ b from h1)
    rw [Nat.succ_mul] at this
    omega
  · exact h1
  · have := Nat.mul_le_mul_right s (show b + 1 ≤ a from h1)
    rw [Nat.succ_mul] at this
    omega
theorem MkS.set {kk : Nat} {mf : Nat → List Value} {k t : Nat} (h : MkS kk mf F k t) (us : List Value) (hu : us = mf k) (hul : us.length = (F (kk, k)).s) (ht : t < (F (kk, k)).n) (hx : (F (kk, k)).xs.length = (F (kk, k)).n * (F (kk, k)).s) : MkS kk mf (updR F (kk, k) ⟨(F (kk, k)).e, (F (kk, k)).s, (F (kk, k)).v, (F (kk, k)).n, splice (F (kk, k)).xs (t * (F (kk, k)).s) us⟩) k (t + 1) := by
  have hjs : t * (F (kk, k)).s + (F (kk, k)).s ≤ (F (kk, k)).n * (F (kk, k)).s := by rw [← Nat.succ_mul]; exact Nat.mul_le_mul_right _ ht
  intro i j hi hj q hq
  by_cases e : i = k
  · subst e
    rw [updR_same] at hj hq ⊢
    simp only at hj hq ⊢
    rw [splice_get _ _ _ (by omega)]
    by_cases e2 : j = t
    · subst e2
      rw [if_pos ⟨by omega, by omega⟩, hu]
      congr 1
      omega
    · rw [if_neg (fun h9 => e2 (mul_ne_add hq (r := j * (F (kk, i)).s + q - t * (F (kk, i)).s) (by omega) (by omega)))]
      exact h i j (.inr ⟨rfl, by omega⟩) hj q hq
  · rw [updR_other _ (by intro e2; cases e2; exact e rfl)] at hj hq ⊢
    exact h i j (.inl (by omega)) hj q hq
/-- the same rows, of the same lengths -/
structure SameS (F F' : KeyS → RowS) : Prop where
  e : ∀ x, (F' x).e = (F x).e
  s : ∀ x, (F' x).s = (F x).s
  v : ∀ x, (F' x).v = (F x).v
  n : ∀ x, (F' x).n = (F x).n
  r : ∀ k, F' (4, k) = F (4, k)
theorem SameS.refl (F : KeyS → RowS) : SameS F F := ⟨fun _ => rfl, fun _ => rfl, fun _ => rfl, fun _ => rfl, fun _ => rfl⟩
theorem SameS.set {F0 : KeyS → RowS} (h : SameS F0 F) (x : KeyS) (hx : x.1 ≠ 4) (xs : List Value) : SameS F0 (updR F x ⟨(F x).e, (F x).s, (F x).v, (F x).n, xs⟩) := by
  have e : ∀ y, y = x ∨ y ≠ x := fun y => Classical.em _
  refine ⟨fun y => ?_, fun y => ?_, fun y => ?_, fun y => ?_, fun k => ?_⟩
  · rcases e y with rfl | hy
    · rw [updR_same]; exact h.e _
    · rw [updR_other _ hy]; exact h.e _
  · rcases e y with rfl | hy
    · rw [updR_same]; exact h.s _
    · rw [updR_other _ hy]; exact h.s _
  · rcases e y with rfl | hy
    · rw [updR_same]; exact h.v _
    · rw [updR_other _ hy]; exact h.v _
  · rcases e y with rfl | hy
    · rw [updR_same]; exact h.n _
    · rw [updR_other _ hy]; exact h.n _
  · rw [updR_other _ (by intro e; rw [← e] at hx; exact hx rfl)]; exact h.r k
/-- the rows that two lists name -/
structure Nm (W w : World) (F : KeyS → RowS) (n m Gt ct Gl cl : Nat) : Prop where
  d : Fw W w F
  rt : F (4, 0) = ⟨tB1, 1, .slice (some ⟨Gt, 0, none⟩) n ct, n, (List.range n).map fun i => (F (0, i)).v⟩
  rl : F (4, 1) = ⟨tR1, 1, .slice (some ⟨Gl, 0, none⟩) m cl, m, (List.range m).map fun i => (F (1, i)).v⟩
  et : ∀ i, i < n → (F (0, i)).e = 5 ∧ (F (0, i)).s = 1
  el : ∀ i, i < m → (F (1, i)).e = tR ∧ (F (1, i)).s = 2
theorem Nm.cellT {n m Gt ct Gl cl : Nat} (h : Nm W w F n m Gt ct Gl cl) (i : Nat) (hi : i < n) : w.cell? ⟨Gt, i, none⟩ = some (F (0, i)).v := by
  have h0 := h.d.fam.own (4, 0)
  rw [h.rt] at h0
  rw [World.ownsRow.cellAt h0 i (by simpa using hi)]
  simp [hi]
theorem Nm.cellL {n m Gt ct Gl cl : Nat} (h : Nm W w F n m Gt ct Gl cl) (i : Nat) (hi : i < m) : w.cell? ⟨Gl, i, none⟩ = some (F (1, i)).v := by
  have h0 := h.d.fam.own (4, 1)
  rw [h.rl] at h0
  rw [World.ownsRow.cellAt h0 i (by simpa using hi)]
  simp [hi]
theorem Nm.same {F' : KeyS → RowS} {n m Gt ct Gl cl : Nat} (h : Nm W w F n m Gt ct Gl cl) (hs : SameS F F') (hd : Fw W w' F') : Nm W w' F' n m Gt ct Gl cl := by
  refine ⟨hd, ?_, ?_, fun i hi => ⟨(hs.e _).trans (h.et i hi).1, (hs.s _).trans (h.et i hi).2⟩, fun i hi => ⟨(hs.e _).trans (h.el i hi).1, (hs.s _).trans (h.el i hi).2⟩⟩
  · rw [hs.r, h.rt]
    congr 1
    exact List.map_congr_left fun i _ => (hs.v _).symm
  · rw [hs.r, h.rl]
    congr 1
    exact List.map_congr_left fun i _ => (hs.v _).symm
theorem Nm.below {n m Gt ct Gl cl : Nat} (h : Nm W w F n m Gt ct Gl cl) (hb : Below w.heap.size w w') : Nm W w' F n m Gt ct Gl cl := ⟨h.d.below hb, h.rt, h.rl, h.et, h.el⟩
theorem Pw.nm {n m : Nat} {tv lv : Value} {TX : Nat → List UInt8} {LP : Nat → List Rg → Prop} (h : Pw W w F n m tv lv TX LP) (hn : 0 < n) (hm : 0 < m) : ∃ Gt ct Gl cl, tv = .slice (some ⟨Gt, 0, none⟩) n ct ∧ lv = .slice (some ⟨Gl, 0, none⟩) m cl ∧ Nm W w F n m Gt ct Gl cl := by
  have h0 := h.d.fam.own (4, 0)
  have h1 := h.d.fam.own (4, 1)
  obtain ⟨a, ct, e, -, hg⟩ := RowS.val h0
  obtain ⟨a2, cl, e2, -, hg2⟩ := RowS.val h1
  rw [h.rt] at e hg
  rw [h.rl] at e2 hg2
  obtain ⟨Gt, rfl⟩ := hg hn
  obtain ⟨Gl, rfl⟩ := hg2 hm
  simp only at e e2
  refine ⟨Gt, ct, Gl, cl, e, e2, h.d, by rw [h.rt, e], by rw [h.rl, e2], fun i hi => ?_, fun i hi => ?_⟩
  · rw [h.et i hi]; exact ⟨rfl, rfl⟩
  · obtain ⟨out, e9, -⟩ := h.el i hi
    rw [e9]; exact ⟨rfl, rfl⟩
/-- what a row's cells are -/
theorem Fw.slv (h : Fw W w F) (x : KeyS) : ∃ a cap, (F x).v = .slice a (F x).n cap ∧ (F x).n ≤ cap ∧ (0 < (F x).n → ∃ g, a = some ⟨g, 0, none⟩ ∧ ∀ j, j < (F x).n * (F x).s → w.cell? ⟨g, j, none⟩ = (F x).xs[j]? ∧ w.frozen? ⟨g, j, none⟩ = false) := by
  have h0 := h.fam.own x
  obtain ⟨a, cap, e, hc, hg⟩ := RowS.val h0
  refine ⟨a, cap, e, hc, fun hp => ?_⟩
  obtain ⟨g, rfl⟩ := hg hp
  refine ⟨g, rfl, fun t ht => ?_⟩
  unfold RowS.at at h0
  rw [e] at h0
  exact ⟨World.ownsRow.cellAt h0 t ht, World.ownsRow.frozenAt h0 t⟩
/-- the six texts -/
def txF (T1 D1 T2 D2 : List UInt8) (i : Nat) : List UInt8 := if i = 2 then T2 else if i = 3 then D2 else if i % 2 = 0 then T1 else D1
/-- what the lists are -/
def LPk (l l2 : List Rg) (i0 : Int) : Nat → List Rg → Prop
  | 0, out => out = l
  | 1, out => Lst out ∧ ∀ x, hasR out x ↔ hasR l x
  | 2, out => Lst out ∧ ∀ x, hasR out x ↔ hasR (l ++ l2) x
  | 3, out => Lst out ∧ ∀ x, hasR out x ↔ hasR (addL l i0) x
  | _, out => MissS l out 64
def LPF (l1 l2 : List Rg) (i0 : Int) (i : Nat) (out : List Rg) : Prop := out.length ≤ 1000000 ∧ LPk (if i / 5 = 1 then l2 else l1) l2 i0 (i % 5) out
def FP0 : KeyS → RowS := fun x => if x = (4, 0) then ⟨tB1, 1, .slice none 0 0, 0, []⟩ else if x = (4, 1) then ⟨tR1, 1, .slice none 0 0, 0, []⟩ else bRowS (.slice none 0 0) []
theorem FP0_v (x : KeyS) : (FP0 x).v = .slice none 0 0 ∧ (FP0 x).n = 0 ∧ (FP0 x).xs = [] := by unfold FP0; (repeat' split) <;> exact ⟨rfl, rfl, rfl⟩
theorem pw_start (W : World) (TX : Nat → List UInt8) (LP : Nat → List Rg → Prop) : Pw W W FP0 0 0 (.slice none 0 0) (.slice none 0 0) TX LP := by
  refine ⟨⟨⟨fun x => ?_, fun x y _ => .inl (by rw [(FP0_v x).1]; rfl)⟩, Below.refl _ _⟩, by simp [FP0], by simp [FP0], fun i hi => absurd hi (Nat.not_lt_zero _), fun i hi => absurd hi (Nat.not_lt_zero _)⟩
  unfold RowS.at
  rw [(FP0_v x).1, (FP0_v x).2.1, (FP0_v x).2.2]
  exact World.ownsRow_nil _ _ _ _
def mfT (i : Nat) : List Value := [.int .u8 ((i : Int) + 1)]
def mfL (i : Nat) : List Value := [.int .i64 (1000 + (i : Int)), .int .i64 0]
theorem setCells_one (w : World) (g t : Nat) (u : Value) : w.setCells g (t * 1) [u] = w.setCell ⟨g, t, none⟩ u := by simp [World.setCells]
/-- the rows' lengths -/
structure Ln (F : KeyS → RowS) (n m : Nat) : Prop where
  t : ∀ i, i < n → (F (0, i)).n ≤ 1000000
  l : ∀ i, i < m → (F (1, i)).n ≤ 1000000
theorem Pw.ln {n m : Nat} {tv lv : Value} {TX : Nat → List UInt8} {LP : Nat → List Rg → Prop} (h : Pw W w F n m tv lv TX LP) (ht : ∀ i, i < n → (TX i).length ≤ 1000000) (hl : ∀ i out, LP i out → out.length ≤ 1000000) : Ln F n m :=
  ⟨fun i hi => by rw [h.et i hi]; exact ht i hi, fun i hi => by obtain ⟨out, e, hp⟩ := h.el i hi; rw [e]; exact hl i out hp⟩
/-- amid the marking of a row -/
structure MiS (W w : World) (F0 F : KeyS → RowS) (n kk k t : Nat) (mf mb : Nat → List Value) (Vk : Value) (L sz : Nat) : Prop where
  d : Fw W w F
  sv : SameS F0 F
  mt : MkS kk mf F k t
  ex : kk = 1 → MkS 0 mb F n 0
  vk : (F (kk, k)).v = Vk
  lk : (F (kk, k)).n = L
  sk : (F (kk, k)).s = sz
theorem MiS.set {F0 : KeyS → RowS} {n kk k t L sz : Nat} {mf mb : Nat → List Value} {Vk : Value} (h : MiS W w F0 F n kk k t mf mb Vk L sz) (hkk : kk < 4) (g cap : Nat) (hV : Vk = .slice (some ⟨g, 0, none⟩) L cap) (ht : t < L) (us : List Value) (hu : us = mf k) (hl : us.length = sz) :
    ∃ F', MiS W (w.setCells g (t * sz) us) F0 F' n kk k (t + 1) mf mb Vk L sz := by
  have h4 : (kk, k).1 ≠ 4 := by simp; omega
  have h0 := h.d.mark (kk, k) g cap (by rw [h.vk, hV, h.lk]) t (by rw [h.lk]; exact ht) us (by rw [h.sk]; exact hl)
  rw [h.sk] at h0
  refine ⟨_, h0, ?_, ?_, fun e => (h.ex e).other (by omega), ?_, ?_, ?_⟩
  · have h9 := h.sv.set (kk, k) h4 (splice (F (kk, k)).xs (t * sz) us)
    rw [h.sk] at h9
    exact h9
  · have h9 := h.mt.set us hu (by rw [h.sk]; exact hl) (by rw [h.lk]; exact ht) (h.d.fam.own (kk, k)).1
    rw [h.sk] at h9
    exact h9
  · rw [updR_same]; exact h.vk
  · rw [updR_same]; exact h.lk
  · rw [updR_same]
end Go.Proofs.YtplncfahpdmcoaaGreatDoor
