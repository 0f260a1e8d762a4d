import Derived.Test.YtekfolppahnpoaaDNilC
import Derived.Test.YtekfolppahnpoaaShelf
import Derived.Sort.OwnSortedInts
import Derived.Deep.AppendLies
namespace Go.Proofs.Ytekfolppahnpoaa
set_option linter.unusedVariables false
set_option linter.unusedSimpArgs false
open Go.RowKit Go.Maps Go.Sort
/-- a row of ints of the call's own -/
def OwnI (w : World) (B : Nat) (v : Value) (xs : List Int) : Prop := w.ownsRow B 3 1 v xs.length (xs.map (Value.int .i64))
theorem infoI : (Try.prog.info? 3).map (fun i => (i.zero, i.size, i.bytes)) = some (some (.int .i64 0), 1, 8) := by kernel_rfl
theorem OwnI.val {w : World} {B : Nat} {v : Value} {xs : List Int} (h : OwnI w B v xs) : ∃ a c, v = .slice a xs.length c ∧ (0 < xs.length → ∃ g, a = some ⟨g, 0, none⟩ ∧ B ≤ g ∧ g < w.heap.size ∧ ∀ j (hj : j < xs.length), w.cell? ⟨g, j, none⟩ = some (.int .i64 xs[j])) := by
  have hlt := World.ownsRow.lt h
  rcases h.2 with ⟨rfl, h0⟩ | ⟨g, cap, cur, rfl, hB, hg, hn, hm, hs, ht⟩
  · exact ⟨none, 0, by rw [h0], fun hp => by omega⟩
  · refine ⟨_, cap, rfl, fun hp => ⟨g, rfl, hB, (hlt g rfl).2, fun j hj => ?_⟩⟩
    have h1 := World.ownsRow.cellAt h j (by omega)
    rw [h1]
    simp [hj]
theorem OwnI.grown {w w' : World} {B : Nat} {v : Value} {xs : List Int} {row : Option Nat} (h : OwnI w B v xs) (hg : w.grownBy w' row) (hne : v.ownBlock = none ∨ v.ownBlock ≠ row) : OwnI w' B v xs := World.ownsRow.kept h hg hne
theorem OwnI.below {w w' : World} {B : Nat} {v : Value} {xs : List Int} (h : OwnI w B v xs) (hb : Below w.heap.size w w') : OwnI w' B v xs :=
  h.grown (gr_below (World.grownBy.refl w none) hb) (by cases hv : v.ownBlock <;> simp)
theorem OwnI.nil (w : World) (B : Nat) : OwnI w B nilS [] := World.ownsRow_nil _ _ _ _
theorem OwnI.base {w : World} {B B' : Nat} {v : Value} {xs : List Int} (h : OwnI w B v xs) (hB : B' ≤ B) : OwnI w B' v xs := by
  refine ⟨h.1, ?_⟩
  rcases h.2 with h0 | ⟨g, cap, cur, hv, hg, r⟩
  · exact .inl h0
  · exact .inr ⟨g, cap, cur, hv, Nat.le_trans hB hg, r⟩
/-- append of one int that has just been laid -/
theorem wp_appI {w : World} {ops : Array Oper} {rest : List Oper} {o : Oper} {a : Act} {Q : Exit → Act → World → Prop} (hgd : o.guard = none) (s x : Operand)
    (ho : o.op = .call { callee := .builtin .append, args := #[s, x], argTypes := #[37, 37] }) (B : Nat) (v : Value) (xs : List Int) (y : Int) (g : Nat)
    (hs : a.eval s = v) (hown : OwnI w B v xs) (hx : a.eval x = .slice (some ⟨g, 0, none⟩) 1 1) (hg : w.heap[g]? = some (.cells #[.int .i64 y] 3 (0, 0))) (hb : xs.length ≤ 1099511627776) (hbase : B ≤ w.heap.size)
    (h : ∀ g' cap w', OwnI w' B (.slice (some ⟨g', 0, none⟩) (xs.length + 1) cap) (xs ++ [y]) → w.grownBy w' v.ownBlock → (v.ownBlock = some g' ∨ g' = w.heap.size) → wpList Try.prog ops Q rest (a.put o.dst (.slice (some ⟨g', 0, none⟩) (xs.length + 1) cap)) w') : wpList Try.prog ops Q (o :: rest) a w := by
  obtain ⟨i0, hi, hz0, hz1, hz2⟩ := info_parts infoI
  refine wpList_append_lies w hgd s x 37 ho B 3 i0 (.int .i64 0) 1 8 Try.underlying37 hi hz0 hz1 hz2 rfl (by decide) v xs.length (xs.map (Value.int .i64)) hs hown ⟨g, 0, none⟩ 1 1 [.int .i64 y] hx rfl (World.news_of_block hg) (by intro u hu; simp at hu; subst hu; rfl) (by decide) (by simp only [maxLen]; omega) (by omega) hbase w.heap.size rfl ?_
  intro g' cap w' h1 h2 h3 _
  refine h g' cap w' ?_ h2 h3
  unfold OwnI
  rw [List.length_append, List.map_append]
  exact h1
/-- the library's sort, on a row of the call's own -/
theorem sort_own (B : Nat) (v : Value) (zs : List Int) (w : World) (h : OwnI w B v zs) (hl : zs.length ≤ 1099511627776) :
    Calls Try.prog 22 #[v] w fun e w' => e = .returned (.tuple #[]) ∧ OwnI w' B v (zs.mergeSort fun x y => decide (x ≤ y)) ∧ w.grownBy w' v.ownBlock := by
  have hsl : (zs.mergeSort fun x y => decide (x ≤ y)).length = zs.length := by simp
  by_cases h0 : zs = []
  · subst h0
    obtain ⟨a, c, rfl, -⟩ := h.val
    refine (Try.slices_Sort_int_none a c w).mono ?_
    rintro e w' ⟨rfl, rfl⟩
    exact ⟨rfl, by simpa using h, World.grownBy.refl _ _⟩
  · rcases h.2 with ⟨rfl, h1⟩ | ⟨g, cap, cur, rfl, hB, hg, hn, hm, hs, ht⟩
    · exact absurd (List.eq_nil_of_length_eq_zero h1) h0
    · have hlt := (Array.getElem?_eq_some_iff.1 hg).1
      rw [Nat.mul_one] at ht hs
      refine (Try.slices_Sort_int g 0 cap zs w (holds_of_blockI hg ht) hlt (by omega)).mono ?_
      rintro e w' ⟨rfl, n, os, rfl⟩
      refine ⟨rfl, ?_, grownBy_sortedI _⟩
      unfold OwnI
      rw [hsl]
      exact ownsRow_sortedI hsl hB hg hn hm (by rw [Nat.mul_one]; exact hs)
theorem sorted_ext : ∀ (l l' : List Int), l.Pairwise (· < ·) → l'.Pairwise (· < ·) → (∀ x, x ∈ l ↔ x ∈ l') → l = l'
  | [], [], _, _, _ => rfl
  | [], y :: l', _, _, h => absurd ((h y).2 (by simp)) (by simp)
  | x :: l, [], _, _, h => absurd ((h x).1 (by simp)) (by simp)
  | x :: l, y :: l', h1, h2, h => by
    obtain ⟨a1, a2⟩ := List.pairwise_cons.1 h1
    obtain ⟨b1, b2⟩ := List.pairwise_cons.1 h2
    have hxy : x = y := by
      rcases List.mem_cons.1 ((h x).1 (by simp)) with e | e
      · exact e
      · rcases List.mem_cons.1 ((h y).2 (by simp)) with e' | e'
        · exact e'.symm
        · have := b1 x e; have := a1 y e'; omega
    subst hxy
    rw [sorted_ext l l' a2 b2 (fun z => ?_)]
    constructor
    · intro hz
      rcases List.mem_cons.1 ((h z).1 (by simp [hz])) with e | e
      · have := a1 z hz; omega
      · exact e
    · intro hz
      rcases List.mem_cons.1 ((h z).2 (by simp [hz])) with e | e
      · have := b1 z hz; omega
      · exact e
theorem sort_strict (l : List Int) (h : l.Nodup) : (l.mergeSort fun x y => decide (x ≤ y)).Pairwise (· < ·) := by
  have h1 : (l.mergeSort fun x y => decide (x ≤ y)).Pairwise (fun x y => decide (x ≤ y) = true) := List.pairwise_mergeSort (fun a b c h1 h2 => by simp at *; omega) (fun a b => by simp; omega) l
  have h2 : (l.mergeSort fun x y => decide (x ≤ y)).Nodup := (List.mergeSort_perm l _).nodup_iff.2 h
  exact (h1.and h2).imp (fun hab => by have := hab.1; have := hab.2; simp at *; omega)
/-- the dirty sectors, rising -/
def dirtyN (N : Nat) (C : Nat → List (List UInt8)) : List Nat := (List.range N).filter fun k => !(C k).isEmpty
def dirtyL (N : Nat) (C : Nat → List (List UInt8)) : List Int := (dirtyN N C).map fun (k : Nat) => (k : Int)
def dirtyC (N : Nat) (C : Nat → List (List UInt8)) : List Int := (dirtyN N C).map fun (k : Nat) => ((C k).length : Int)
theorem dirtyN_mem {N k : Nat} {C : Nat → List (List UInt8)} : k ∈ dirtyN N C ↔ k < N ∧ C k ≠ [] := by simp [dirtyN, List.isEmpty_iff]
theorem dirtyL_strict (N : Nat) (C : Nat → List (List UInt8)) : (dirtyL N C).Pairwise (· < ·) := by
  unfold dirtyL dirtyN
  rw [List.pairwise_map]
  exact (List.pairwise_lt_range.filter _).imp (fun h => by omega)
theorem dirty_sorted {N : Nat} {C : Nat → List (List UInt8)} (ks : List Nat) (h : ks.Nodup) (hm : ∀ k, k ∈ ks ↔ k < N ∧ C k ≠ []) : ((ks.map fun (k : Nat) => (k : Int)).mergeSort fun x y => decide (x ≤ y)) = dirtyL N C := by
  apply sorted_ext _ _ (sort_strict _ ?_) (dirtyL_strict N C)
  · intro x
    rw [(List.mergeSort_perm _ _).mem_iff]
    unfold dirtyL
    simp only [List.mem_map]
    constructor
    · rintro ⟨k, hk, rfl⟩; exact ⟨k, dirtyN_mem.2 ((hm k).1 hk), rfl⟩
    · rintro ⟨k, hk, rfl⟩; exact ⟨k, (hm k).2 (dirtyN_mem.1 hk), rfl⟩
  · rw [List.nodup_iff_pairwise_ne, List.pairwise_map] 
    exact (List.nodup_iff_pairwise_ne.1 h).imp (fun h => by omega)
end Go.Proofs.Ytekfolppahnpoaa
