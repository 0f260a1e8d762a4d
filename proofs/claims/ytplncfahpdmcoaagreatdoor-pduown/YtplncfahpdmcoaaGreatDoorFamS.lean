import Derived.Test.YtplncfahpdmcoaaGreatDoorBase
import Derived.Deep.AppendLies
import Derived.Lib.AppendZeros
namespace Go.Proofs.YtplncfahpdmcoaaGreatDoor
set_option linter.unusedVariables false
set_option linter.unusedSimpArgs false
open Go.RowKit
set_option maxRecDepth 20000
/-- a row of memory: the type of its elements, their cells, the slice, how many, what it holds -/
structure RowS where
  e : TypeId
  s : Nat
  v : Value
  n : Nat
  xs : List Value
def RowS.at (r : RowS) (w : World) (B : Nat) : Prop := w.ownsRow B r.e r.s r.v r.n r.xs
theorem RowS.at_lt {r : RowS} {w : World} {B : Nat} (h : r.at w B) (g : Nat) (hg : r.v.ownBlock = some g) : B ≤ g ∧ g < w.heap.size := World.ownsRow.lt h g hg
theorem RowS.at_below {r : RowS} {w w' : World} {B : Nat} (h : r.at w B) (hb : Below w.heap.size w w') : r.at w' B :=
  World.ownsRow.kept h ⟨hb.os, hb.tape, hb.output, hb.size, fun k hk _ => hb.block k hk⟩ (by cases hv : r.v.ownBlock <;> simp) (row := none)
theorem RowS.at_base {r : RowS} {w : World} {B B' : Nat} (h : r.at w B) (hB : B' ≤ B) : r.at w B' := by
  refine ⟨h.1, ?_⟩
  rcases h.2 with h0 | ⟨g, cap, cur, hv, hg, q⟩
  · exact .inl h0
  · exact .inr ⟨g, cap, cur, hv, Nat.le_trans hB hg, q⟩
theorem RowS.blk {r : RowS} {w : World} {B b : Nat} (h : r.at w B) (hb : r.v.ownBlock = some b) : ∃ cur, w.heap[b]? = some (.cells cur r.e (0, 0)) := by
  rcases h.2 with ⟨e, -⟩ | ⟨g, cap, cur, e, -, hg, -⟩
  · rw [e] at hb; simp [Value.ownBlock] at hb
  · rw [e] at hb; simp [Value.ownBlock] at hb
    subst hb
    exact ⟨cur, hg⟩
theorem RowS.val {r : RowS} {w : World} {B : Nat} (h : r.at w B) : ∃ a cap, r.v = .slice a r.n cap ∧ r.n ≤ cap ∧ (0 < r.n → ∃ g, a = some ⟨g, 0, none⟩) := by
  rcases h.2 with ⟨e, h0⟩ | ⟨g, cap, cur, e, -, hg, hn, -⟩
  · exact ⟨none, 0, by rw [e, h0], by omega, fun h => by omega⟩
  · exact ⟨_, _, e, hn, fun _ => ⟨g, rfl⟩⟩
/-- rows of different kinds of elements lie in different blocks -/
theorem RowS.apart {r q : RowS} {w : World} {B B' : Nat} (h : r.at w B) (k : q.at w B') (hne : r.e ≠ q.e) : r.v.ownBlock = none ∨ r.v.ownBlock ≠ q.v.ownBlock := by
  cases hv : r.v.ownBlock with
  | none => exact .inl rfl
  | some b =>
    right
    intro e
    obtain ⟨c1, h1⟩ := RowS.blk h hv
    obtain ⟨c2, h2⟩ := RowS.blk k e.symm
    rw [h1] at h2
    simp only [Option.some.injEq, Obj.cells.injEq] at h2
    exact hne h2.2.1
abbrev KeyS := Nat × Nat
/-- rows of memory by keys, no two of them in one block -/
structure FamS (w : World) (B : Nat) (F : KeyS → RowS) : Prop where
  own : ∀ x, (F x).at w B
  dis : ∀ x y, x ≠ y → (F x).v.ownBlock = none ∨ (F x).v.ownBlock ≠ (F y).v.ownBlock
def updR (F : KeyS → RowS) (k : KeyS) (r : RowS) : KeyS → RowS := fun x => if x = k then r else F x
theorem updR_same (F : KeyS → RowS) (k : KeyS) (r : RowS) : updR F k r k = r := by simp [updR]
theorem updR_other (F : KeyS → RowS) {k x : KeyS} (h : x ≠ k) (r : RowS) : updR F k r x = F x := by simp [updR, h]
theorem updR_self (F : KeyS → RowS) (x : KeyS) : updR F x (F x) = F := by
  funext y
  unfold updR
  split
  · rename_i h; rw [h]
  · rfl
theorem FamS.below {w w' : World} {B : Nat} {F : KeyS → RowS} (h : FamS w B F) (hb : Below w.heap.size w w') : FamS w' B F := ⟨fun x => RowS.at_below (h.own x) hb, h.dis⟩
theorem FamS.lt {w : World} {B : Nat} {F : KeyS → RowS} (h : FamS w B F) (x : KeyS) (g : Nat) (hg : (F x).v.ownBlock = some g) : B ≤ g ∧ g < w.heap.size := RowS.at_lt (h.own x) g hg
/-- a row beside the others, in the place of one -/
theorem FamS.put {w : World} {B : Nat} {F : KeyS → RowS} (h : FamS w B F) (k : KeyS) (r : RowS) (hr : r.at w B) (hne : ∀ x, r.v.ownBlock = none ∨ r.v.ownBlock ≠ (F x).v.ownBlock) : FamS w B (updR F k r) := by
  refine ⟨fun x => ?_, fun x y hxy => ?_⟩
  · by_cases e : x = k
    · subst e; rw [updR_same]; exact hr
    · rw [updR_other _ e]; exact h.own x
  · by_cases e : x = k
    · subst e
      rw [updR_same, updR_other _ (fun e => hxy e.symm)]
      exact hne y
    · rw [updR_other _ e]
      by_cases e2 : y = k
      · subst e2
        rw [updR_same]
        rcases hne x with h1 | h1
        · by_cases h2 : (F x).v.ownBlock = none
          · exact .inl h2
          · right; rw [h1]; exact h2
        · exact .inr (fun e => h1 e.symm)
      · rw [updR_other _ e2]; exact h.dis x y hxy
/-- a row of new memory -/
theorem FamS.new {w w' : World} {B : Nat} {F : KeyS → RowS} (h : FamS w B F) (hb : Below w.heap.size w w') (hB : B ≤ w.heap.size) (k : KeyS) (r : RowS) (hr : r.at w' w.heap.size) : FamS w' B (updR F k r) := by
  refine (h.below hb).put k r (RowS.at_base hr hB) (fun x => ?_)
  cases hv : r.v.ownBlock with
  | none => exact .inl rfl
  | some g =>
    right
    intro e
    have h1 := (h.lt x g e.symm).2
    have h2 := (RowS.at_lt hr g hv).1
    omega
/-- a row changes: in its block, or it goes to a new one -/
theorem FamS.step {w w' : World} {B : Nat} {F : KeyS → RowS} (h : FamS w B F) (k : KeyS) (hg : w.grownBy w' (F k).v.ownBlock) (r : RowS) (hr : r.at w' B) (hb : r.v.ownBlock = (F k).v.ownBlock ∨ ∀ g, r.v.ownBlock = some g → w.heap.size ≤ g) : FamS w' B (updR F k r) := by
  have old : ∀ x, x ≠ k → (F x).v.ownBlock = none ∨ ((F x).v.ownBlock ≠ r.v.ownBlock ∧ r.v.ownBlock ≠ (F x).v.ownBlock) := by
    intro x hne
    rcases hb with hb | hb
    · rw [hb]
      rcases h.dis x k hne with h1 | h1
      · exact .inl h1
      · exact .inr ⟨h1, fun e => h1 e.symm⟩
    · cases hv : (F x).v.ownBlock with
      | none => exact .inl rfl
      | some g =>
        have h1 := (h.lt x g hv).2
        right
        refine ⟨fun e => ?_, fun e => ?_⟩
        · have := hb g e.symm; omega
        · have := hb g e; omega
  refine ⟨fun x => ?_, fun x y hxy => ?_⟩
  · by_cases e : x = k
    · subst e; rw [updR_same]; exact hr
    · rw [updR_other _ e]
      exact World.ownsRow.kept (h.own x) hg (h.dis x k e)
  · by_cases e : x = k
    · subst e
      rw [updR_same, updR_other _ (fun e => hxy e.symm)]
      rcases old y (fun e => hxy e.symm) with h3 | h3
      · by_cases h4 : r.v.ownBlock = none
        · exact .inl h4
        · right; rw [h3]; exact h4
      · exact .inr h3.2
    · rw [updR_other _ e]
      by_cases e2 : y = k
      · subst e2
        rw [updR_same]
        rcases old x e with h3 | h3
        · exact .inl h3
        · exact .inr h3.1
      · rw [updR_other _ e2]; exact h.dis x y hxy
/-- a block that is none of the rows' changes -/
theorem FamS.far {w w' : World} {B : Nat} {F : KeyS → RowS} {row : Option Nat} (h : FamS w B F) (hg : w.grownBy w' row) (hp : ∀ x, (F x).v.ownBlock = none ∨ (F x).v.ownBlock ≠ row) : FamS w' B F :=
  ⟨fun x => World.ownsRow.kept (h.own x) hg (hp x), h.dis⟩
theorem grN {w w' : World} (h : w.grownBy w' none) : Below w.heap.size w w' := ⟨h.os, h.tape, h.output, h.size, fun k hk => h.block k hk (by simp)⟩
/-- append of one element of s cells: in the block, or in a new one -/
theorem run_appE {w : World} (B : Nat) (t ty e : TypeId) (z : Value) (s by_ : Nat) (ht : Tryz.prog.underlying t = some (.slice e)) (hinf : (Tryz.prog.info? e).map (fun i => (i.zero, i.size, i.bytes)) = some (some z, s, by_)) (hz : z.cells.size = s) (hs0 : 0 < s)
    (v : Value) (n : Nat) (xs : List Value) (hown : w.ownsRow B e s v n xs) (g0 : Nat) (c : Nat) (us : List Value) (hul : us.length = s) (hu : w.heap[g0]? = some (.cells us.toArray e (0, 0))) (h1 : ∀ u ∈ us, u.oneCell' = true) (h63 : n + 1 ≤ 140737488355328) (hby : (n + 1) * by_ ≤ 140737488355328) (hbase : B ≤ w.heap.size) :
    ∃ v' w', (Builtin.append_ #[t, t] ty #[v, .slice (some ⟨g0, 0, none⟩) 1 c]).run Tryz.prog w = .ok v' w' ∧ w'.ownsRow B e s v' (n + 1) (xs ++ us) ∧
      ((∃ g cap, v = .slice (some ⟨g, 0, none⟩) n cap ∧ v' = .slice (some ⟨g, 0, none⟩) (n + 1) cap ∧ w.grownBy w' (some g)) ∨ (w.grownBy w' none ∧ ∃ cap, v' = .slice (some ⟨w.heap.size, 0, none⟩) (n + 1) cap)) := by
  obtain ⟨i, hi, hz0, hz1, hz2⟩ := info_parts hinf
  have hnews : ∀ j x, us[j]? = some x → w.cell? ((⟨g0, 0, none⟩ : Addr).add j) = some x := by
    have h9 := World.news_of_block hu
    simpa using h9
  have hlen : (xs ++ us).length = (n + 1) * s := by rw [List.length_append, hown.1, hul, Nat.add_mul, Nat.one_mul]
  have grown : ∀ (old : Nat), (w.drew.alloc (.cells (xs.toArray ++ us.toArray ++ Builtin.zeroCells z.cells (grownCap w (n + 1) old e - (n + 1))) e)).ownsRow B e s (.slice (some ⟨w.heap.size, 0, none⟩) (n + 1) (grownCap w (n + 1) old e)) (n + 1) (xs ++ us) ∧
      w.grownBy (w.drew.alloc (.cells (xs.toArray ++ us.toArray ++ Builtin.zeroCells z.cells (grownCap w (n + 1) old e - (n + 1))) e)) none := by
    intro old
    have hge := grownCap_ge w (n + 1) old e
    have hcm : grownCap w (n + 1) old e ≤ maxLen := grownCap_le_maxLen w (n + 1) old e (by simp only [maxLen]; omega)
    refine ⟨⟨hlen, .inr ⟨w.heap.size, _, _, rfl, hbase, heap_alloc_new w.drew _, hge, hcm, ?_, ?_⟩⟩, ⟨rfl, rfl, rfl, by simp, fun k hk _ => heap_alloc_old w.drew _ hk⟩⟩
    · simp only [Array.size_append, List.size_toArray, size_zeroCells, hz]
      have h9 : xs.length + us.length = (n + 1) * s := by rw [← List.length_append]; exact hlen
      rw [h9, ← Nat.add_mul]
      congr 1
      omega
    · simp only [Array.toList_append, List.append_assoc]
      rw [← List.append_assoc, ← hlen]
      exact List.take_left
  rcases hown.2 with ⟨rfl, rfl⟩ | ⟨g, cap, cur, rfl, hbg, hg, hnc, hcm, hcs, htake⟩
  · have hx : xs = [] := List.eq_nil_of_length_eq_zero (by simpa using hown.1)
    subst hx
    have hr := run_append_nil (P := Tryz.prog) w t ty e i z ht hi hz0 ⟨g0, 0, none⟩ 1 c us (by rw [hz1, Nat.one_mul]; exact hul) hnews (by omega) (by omega) (by rw [hz2]; simp only [Nat.zero_add, Nat.one_mul] at hby ⊢; omega)
    have hgr := grown 0
    simp only [Nat.zero_add, List.nil_append, Array.empty_append] at hgr ⊢
    exact ⟨_, _, hr, hgr.1, .inr ⟨hgr.2, _, rfl⟩⟩
  · by_cases hroom : n + 1 ≤ cap
    · have hfit : n * i.size + us.length ≤ cur.size := by rw [hz1, hcs, hul, ← Nat.succ_mul]; exact Nat.mul_le_mul_right _ hroom
      have hr := run_append_room (P := Tryz.prog) w t ty e i ht hi g n cap cur hg ⟨g0, 0, none⟩ 1 c us (by rw [hz1, Nat.one_mul]; exact hul) hnews h1 hroom hfit
      rw [hz1] at hr hfit
      refine ⟨_, _, hr, ⟨hlen, .inr ⟨g, cap, _, rfl, hbg, setRow_heap w g cur _ e _ hg, hroom, hcm, ?_, ?_⟩⟩, .inl ⟨g, cap, rfl, rfl, ⟨rfl, rfl, rfl, by simp, fun k _ hk => setRow_other w g k _ (fun e => hk (by rw [e]))⟩⟩⟩
      · simp only [List.size_toArray, List.length_append, List.length_take, List.length_drop, Array.length_toList]
        omega
      · rw [htake, ← hlen]
        exact List.take_left
    · have holds : ∀ j x, xs[j]? = some x → w.cell? ((⟨g, 0, none⟩ : Addr).add j) = some x := hown.cells (g := g) rfl
      have hr := run_append_grow (P := Tryz.prog) w t ty e i z ht hi hz0 ⟨g, 0, none⟩ n cap xs (by rw [hz1]; exact hown.1) holds ⟨g0, 0, none⟩ 1 c us (by rw [hz1, Nat.one_mul]; exact hul) hnews (by omega) (by omega) (growslice_fits (by omega) (by rw [hz2]; exact hby))
      have hgr := grown cap
      exact ⟨_, _, hr, hgr.1, .inr ⟨hgr.2, _, rfl⟩⟩
theorem ownS_take {w : World} {B e s g l cap n : Nat} {ys : List Value} (h : w.ownsRow B e s (.slice (some ⟨g, 0, none⟩) l cap) l ys) (hn : n ≤ l) : w.ownsRow B e s (.slice (some ⟨g, 0, none⟩) n cap) n (ys.take (n * s)) := by
  have hl := h.1
  have hm : n * s ≤ l * s := Nat.mul_le_mul_right _ hn
  rcases h.2 with ⟨e, -⟩ | ⟨g', cap', cur, e, hB, hg, hnc, hcm, hcs, ht⟩
  · cases e
  · cases e
    refine ⟨by simp; omega, .inr ⟨g, cap, cur, rfl, hB, hg, by omega, hcm, hcs, ?_⟩⟩
    rw [← ht, List.take_take]
    congr 1
    omega
/-- the rows, and all that is older than a world -/
structure Fw (W w : World) (F : KeyS → RowS) : Prop where
  fam : FamS w W.heap.size F
  bel : Below W.heap.size W w
variable {W w w' : World} {F : KeyS → RowS}
theorem Fw.below (h : Fw W w F) (hb : Below w.heap.size w w') : Fw W w' F := ⟨h.fam.below hb, below_next h.bel hb⟩
theorem Fw.new (h : Fw W w F) (hb : Below w.heap.size w w') (k : KeyS) (r : RowS) (hr : r.at w' w.heap.size) : Fw W w' (updR F k r) := ⟨h.fam.new hb h.bel.size k r hr, below_next h.bel hb⟩
theorem Fw.put (h : Fw W w F) (k : KeyS) (r : RowS) (hr : r.at w W.heap.size) (hne : ∀ x, r.v.ownBlock = none ∨ r.v.ownBlock ≠ (F x).v.ownBlock) : Fw W w (updR F k r) := ⟨h.fam.put k r hr hne, h.bel⟩
theorem Fw.step (h : Fw W w F) (k : KeyS) (hg : w.grownBy w' (F k).v.ownBlock) (r : RowS) (hr : r.at w' W.heap.size) (hb : r.v.ownBlock = (F k).v.ownBlock ∨ ∀ g, r.v.ownBlock = some g → w.heap.size ≤ g) : Fw W w' (updR F k r) :=
  ⟨h.fam.step k hg r hr hb, h.bel.grown hg h.bel.size (fun j hj => (h.fam.lt k j hj).1)⟩
theorem Fw.far (h : Fw W w F) {r : RowS} (hr : r.at w W.heap.size) (hne : ∀ x, r.v.ownBlock = none ∨ r.v.ownBlock ≠ (F x).v.ownBlock) (hg : w.grownBy w' r.v.ownBlock) : Fw W w' F := by
  refine ⟨h.fam.far hg (fun x => ?_), h.bel.grown hg h.bel.size (fun j hj => (RowS.at_lt hr j hj).1)⟩
  rcases hne x with h1 | h1
  · cases hv : (F x).v.ownBlock with
    | none => exact .inl rfl
    | some g => right; rw [h1]; simp
  · exact .inr (fun e => h1 e.symm)
/-- a longer list in the place of one -/
structure MoS (W w : World) (F : KeyS → RowS) (x : KeyS) (vm : Value) (l : Nat) (ms : List Value) : Prop where
  d : Fw W w F
  row : w.ownsRow W.heap.size (F x).e (F x).s vm l ms
  pre : ms.take ((F x).n * (F x).s) = (F x).xs
  le : (F x).n ≤ l
  rel : (∃ g cap, (F x).v = .slice (some ⟨g, 0, none⟩) (F x).n cap ∧ vm = .slice (some ⟨g, 0, none⟩) l cap) ∨ (∀ y, vm.ownBlock = none ∨ vm.ownBlock ≠ (F y).v.ownBlock)
variable {x : KeyS} {vm : Value} {ms : List Value} {l : Nat}
theorem MoS.below (h : MoS W w F x vm l ms) (hb : Below w.heap.size w w') : MoS W w' F x vm l ms :=
  ⟨h.d.below hb, RowS.at_below (r := ⟨(F x).e, (F x).s, vm, l, ms⟩) h.row hb, h.pre, h.le, h.rel⟩
theorem MoS.start (h : Fw W w F) (x : KeyS) : MoS W w F x (F x).v (F x).n (F x).xs := by
  refine ⟨h, h.fam.own x, by rw [List.take_of_length_le]; exact Nat.le_of_eq (h.fam.own x).1, Nat.le_refl _, ?_⟩
  rcases (h.fam.own x).2 with ⟨e, -⟩ | ⟨g, cap, cur, e, -⟩
  · right; intro y; left; rw [e]; rfl
  · exact .inl ⟨g, cap, e, e⟩
theorem MoS.grow (h : MoS W w F x vm l ms) (g cap : Nat) (hvm : vm = .slice (some ⟨g, 0, none⟩) l cap) (hg : w.grownBy w' (some g)) (l' : Nat) (ms' : List Value) (hrow : w'.ownsRow W.heap.size (F x).e (F x).s (.slice (some ⟨g, 0, none⟩) l' cap) l' ms') (hpre : ms'.take ((F x).n * (F x).s) = (F x).xs) (hle : (F x).n ≤ l') : MoS W w' F x (.slice (some ⟨g, 0, none⟩) l' cap) l' ms' := by
  rcases h.rel with ⟨g', cap', e1, e2⟩ | hr
  · rw [hvm] at e2
    cases e2
    refine ⟨?_, hrow, hpre, hle, .inl ⟨g, cap, e1, rfl⟩⟩
    have h1 := h.d.step x (w' := w') (by rw [e1]; exact hg) (F x) (by
      unfold RowS.at
      rw [e1]
      have h2 := ownS_take hrow hle
      rw [hpre] at h2
      exact h2) (.inl rfl)
    rwa [updR_self] at h1
  · refine ⟨?_, hrow, hpre, hle, .inr ?_⟩
    · exact h.d.far (r := ⟨(F x).e, (F x).s, vm, l, ms⟩) h.row hr (by show w.grownBy w' vm.ownBlock; rw [hvm]; exact hg)
    · rw [hvm] at hr
      exact hr
theorem MoS.app (h : MoS W w F x vm l ms) {us : List Value} {v' : Value} (hrow : w'.ownsRow W.heap.size (F x).e (F x).s v' (l + 1) (ms ++ us))
    (hc : (∃ g cap, vm = .slice (some ⟨g, 0, none⟩) l cap ∧ v' = .slice (some ⟨g, 0, none⟩) (l + 1) cap ∧ w.grownBy w' (some g)) ∨ (w.grownBy w' none ∧ ∃ cap, v' = .slice (some ⟨w.heap.size, 0, none⟩) (l + 1) cap)) : MoS W w' F x v' (l + 1) (ms ++ us) := by
  have hml := h.row.1
  have hp : (ms ++ us).take ((F x).n * (F x).s) = (F x).xs := by rw [List.take_append_of_le_length (by rw [hml]; exact Nat.mul_le_mul_right _ h.le)]; exact h.pre
  have hle : (F x).n ≤ l + 1 := by have := h.le; omega
  rcases hc with ⟨g, cap, e1, rfl, hg⟩ | ⟨hg, cap, rfl⟩
  · exact h.grow g cap e1 hg _ _ hrow hp hle
  · refine ⟨h.d.below (grN hg), hrow, hp, hle, .inr fun y => .inr fun e => ?_⟩
    have := (h.d.fam.lt y w.heap.size e.symm).2
    omega
/-- append of one to it -/
theorem wp_appMS {ops : Array Oper} {rest : List Oper} {o : Oper} {a : Act} {Q : Exit → Act → World → Prop} (hgd : o.guard = none) (s y : Operand) (t e : TypeId) (z : Value) (sz by_ : Nat)
    (ht : Tryz.prog.underlying t = some (.slice e)) (hinf : (Tryz.prog.info? e).map (fun i => (i.zero, i.size, i.bytes)) = some (some z, sz, by_)) (hz : z.cells.size = sz) (hs0 : 0 < sz) (hby : by_ ≤ 32)
    (ho : o.op = .call { callee := .builtin .append, args := #[s, y], argTypes := #[t, t] }) (h : MoS W w F x vm l ms) (he : (F x).e = e) (hsz : (F x).s = sz) (hs : a.eval s = vm)
    (g0 c0 : Nat) (us : List Value) (hul : us.length = sz) (hy : a.eval y = .slice (some ⟨g0, 0, none⟩) 1 c0) (hu : w.heap[g0]? = some (.cells us.toArray e (0, 0))) (h1 : ∀ u ∈ us, u.oneCell' = true) (hb : l ≤ 1000000000)
    (hk : ∀ v' w', MoS W w' F x v' (l + 1) (ms ++ us) → wpList Tryz.prog ops Q rest (a.put o.dst v') w') : wpList Tryz.prog ops Q (o :: rest) a w := by
  have hrow := h.row
  rw [he, hsz] at hrow
  obtain ⟨v', w', hr, h2, h3⟩ := run_appE W.heap.size t o.type e z sz by_ ht hinf hz hs0 vm l ms hrow g0 c0 us hul hu h1 (by omega) (by have := Nat.mul_le_mul (show l + 1 ≤ 1000000001 by omega) hby; omega) h.d.bel.size
  refine Lib.wpList_append_run w hgd s y t t ho vm (.slice (some ⟨g0, 0, none⟩) 1 c0) hs hy v' w' hr ?_
  exact hk v' w' (h.app (by rw [he, hsz]; exact h2) h3)
end Go.Proofs.YtplncfahpdmcoaaGreatDoor
