import Derived.Test.YtdoikcolkbjnfaaGreatGRMiss
import Derived.Test.YtdoikcolkbjnfaaGreatGShelf
namespace Go.Proofs.YtdoikcolkbjnfaaGreat
set_option linter.unusedVariables false
set_option linter.unusedSimpArgs false
open Go.RowKit Go.Shelf Go.Sort
theorem flatK_rv (xs : List Rg) : flatK rv 2 xs.toArray = (flatR xs).toArray := by
  refine ext_get! (by simp [flatR_len]) fun t ht => ?_
  have ht' : t < xs.length * 2 := by simpa using ht
  rw [get_flatK _ _ _ t (by simpa using ht')]
  have hq : t / 2 < xs.length := by omega
  obtain ⟨h1, h2⟩ := flatR_get xs (t / 2) hq
  have hx : xs.toArray[t / 2]! = xs[t / 2] := by rw [getElem!_pos _ _ (by simpa using hq)]; simp
  rw [hx, getElem!_pos (flatR xs).toArray t (by simp [flatR_len]; omega)]
  rcases Nat.mod_two_eq_zero_or_one t with h | h
  · rw [h]
    rw [show t / 2 * 2 = t from by omega] at h1
    obtain ⟨_, h3⟩ := List.getElem?_eq_some_iff.1 h1
    simp [h3]
  · rw [h]
    rw [show t / 2 * 2 + 1 = t from by omega] at h2
    obtain ⟨_, h3⟩ := List.getElem?_eq_some_iff.1 h2
    simp [h3]
theorem holdsR {w : World} {g : Nat} {cur : Array Value} {e : TypeId} {xs : List Rg} (hb : w.heap[g]? = some (.cells cur e (0, 0))) (ht : cur.toList.take (xs.length * 2) = flatR xs) : HoldsK rv 2 w g 0 xs.toArray := by
  unfold HoldsK
  rw [flatK_rv]
  intro j hj
  have hj' : j < (flatR xs).length := by simpa using hj
  have hj2 : j < xs.length * 2 := by rw [flatR_len] at hj'; exact hj'
  refine ⟨?_, by simp [World.frozen?, hb]⟩
  have h1 : (cur.toList.take (xs.length * 2))[j]? = (flatR xs)[j]? := by rw [ht]
  rw [List.getElem?_take_of_lt hj2] at h1
  simp only [World.cell?, hb, Nat.zero_add]
  simp only [Option.isSome_none, Bool.false_eq_true, if_false]
  rw [← Array.getElem?_toList, h1]
  simp [hj']
theorem heap_sortR {w : World} {g n : Nat} {os : Array Obj} {cur : Array Value} {e : TypeId} {fr : Nat × Nat} (d : Array Rg) (hb : w.heap[g]? = some (.cells cur e fr)) :
    (sortWorldK rv 2 w g 0 n d os).heap[g]? = some (.cells (putCells id 0 (flatK rv 2 d) cur) e fr) := by
  have hg : g < w.heap.size := (Array.getElem?_eq_some_iff.1 hb).1
  unfold sortWorldK putRowK
  rw [heap_grow_old _ _ (by simpa using hg)]
  simp [putRow, mapBlock, Sort.ahead, Array.getElem?_modify, hb, onCells]
theorem grown_sortR {w : World} {g n : Nat} {os : Array Obj} (d : Array Rg) : w.grownBy (sortWorldK rv 2 w g 0 n d os) (some g) := by
  unfold sortWorldK putRowK
  refine ⟨rfl, rfl, rfl, by simp, fun k hk hne => ?_⟩
  rw [heap_grow_old _ _ (by simpa using hk)]
  have : g ≠ k := fun e => hne (by rw [e])
  simp [putRow, mapBlock, Sort.ahead, Array.getElem?_modify, this]
theorem take_putR (cur : Array Value) (ys : List Rg) (h : ys.length * 2 ≤ cur.size) : (putCells id 0 (flatR ys).toArray cur).toList.take (ys.length * 2) = flatR ys := by
  apply List.ext_getElem?
  intro j
  by_cases hj : j < ys.length * 2
  · have hj' : j < (flatR ys).length := by rw [flatR_len]; exact hj
    rw [List.getElem?_take_of_lt hj, Array.getElem?_toList]
    simp [putCells, hj', show j < cur.size by omega]
  · rw [List.getElem?_take_eq_none (by omega), List.getElem?_eq_none (by rw [flatR_len]; omega)]
theorem ownR_sorted {w : World} {B g cap n : Nat} {os : Array Obj} {cur : Array Value} {xs ys : List Rg} (hl : ys.length = xs.length) (hB : B ≤ g) (hb : w.heap[g]? = some (.cells cur 71 (0, 0)))
    (h1 : xs.length ≤ cap) (h2 : cap ≤ maxLen) (h3 : cur.size = cap * 2) : OwnR (sortWorldK rv 2 w g 0 n ys.toArray os) B (.slice (some ⟨g, 0, none⟩) xs.length cap) ys := by
  refine ⟨flatR_len ys, .inr ⟨g, cap, _, by rw [hl], hB, heap_sortR _ hb, by omega, h2, by simp [putCells, h3], ?_⟩⟩
  rw [flatK_rv]
  exact take_putR cur ys (by omega)
/-- by the first number -/
abbrev cmpF (x y : Rg) : Int := Lib.compareInt x.1 y.1
theorem ltF (x y : Rg) : ltOf cmpF x y = decide (x.1 < y.1) := by
  unfold ltOf cmpF Lib.compareInt
  rcases Int.lt_trichotomy x.1 y.1 with h | h | h
  · simp [h]
  · simp [h]
  · simp [show ¬ x.1 < y.1 by omega, h]
theorem swoF : SWO (ltOf cmpF) := {
  irrefl := fun x => by rw [ltF]; simp
  trans := fun x y z h1 h2 => by rw [ltF] at *; simp at *; omega
  ntrans := fun x y z h1 h2 => by rw [ltF] at *; simp at *; omega }
theorem perm_of_in {d d' : Array Rg} (h : PermIn 0 d.size d d') : d'.toList.Perm d.toList := by
  obtain ⟨h1, -, h3⟩ := h
  have e : d'.extract 0 d.size = d' := by rw [← h1]; simp
  rw [e] at h3
  simpa using h3
theorem pair_of_sorted {d : Array Rg} {n : Nat} (hn : n = d.size) (h : SortedIn (ltOf cmpF) 0 n d) : d.toList.Pairwise (fun x y => x.1 ≤ y.1) := by
  rw [List.pairwise_iff_getElem]
  intro i j hi hj hij
  have h9 := h i j (Nat.zero_le _) hij (by rw [hn]; simpa using hj)
  rw [ltF, getElem!_pos d i (by simpa using hi), getElem!_pos d j (by simpa using hj)] at h9
  simp at h9
  simpa using h9
section
set_option maxRecDepth 20000
set_option maxHeartbeats 1600000
theorem nan_t (x : Int) (w : World) : Calls Tryz.prog 137 #[.int .i64 x] w fun e w' => e = .returned (.bool false) ∧ w' = w := by
  go_enter Tryz.func137, Tryz.ntmps137
  go_wp2
  go_ret
  exact ⟨by simp, rfl⟩
theorem cmp_t (x y : Int) (w : World) : Calls Tryz.prog 106 #[.int .i64 x, .int .i64 y] w fun e w' => e = .returned (.int .i64 (Lib.compareInt x y)) ∧ w' = w := by
  have HR : Hid (Lib.compareInt x y = if x < y then -1 else if x > y then 1 else 0) := rfl
  obtain ⟨r, hr⟩ : ∃ r, r = Lib.compareInt x y := ⟨_, rfl⟩
  rw [← hr]
  have HQ : Hid (r = if x < y then -1 else if x > y then 1 else 0) := by unfold Hid; rw [hr]; exact HR.out
  clear hr HR
  by_cases h1 : x < y
  · have h9 : Hid (r = -1) := by have := HQ.out; unfold Hid; rw [if_pos h1] at this; exact this
    clear HQ
    go_enter Tryz.func106, Tryz.ntmps106
    go_wp2_with (go_at_call 137; refine (nan_t _ _).mono ?_; rintro e w' ⟨rfl, rfl⟩)
    go_ret
    rw [h9.out]
    exact ⟨rfl, rfl⟩
  · by_cases h2 : y < x
    · have h9 : Hid (r = 1) := by have := HQ.out; unfold Hid; rw [if_neg h1, if_pos h2] at this; exact this
      clear HQ
      go_enter Tryz.func106, Tryz.ntmps106
      go_wp2_with (go_at_call 137; refine (nan_t _ _).mono ?_; rintro e w' ⟨rfl, rfl⟩)
      go_ret
      rw [h9.out]
      exact ⟨rfl, rfl⟩
    · have h9 : Hid (r = 0) := by have := HQ.out; unfold Hid; rw [if_neg h1, if_neg h2] at this; exact this
      clear HQ
      go_enter Tryz.func106, Tryz.ntmps106
      go_wp2_with (go_at_call 137; refine (nan_t _ _).mono ?_; rintro e w' ⟨rfl, rfl⟩)
      go_ret
      rw [h9.out]
      exact ⟨rfl, rfl⟩
theorem clos_t (x y : Rg) (w : World) : Calls Tryz.prog 105 #[.agg #[.int .i64 x.1, .int .i64 x.2], .agg #[.int .i64 y.1, .int .i64 y.2]] w fun e w' => e = .returned (.int .i64 (cmpF x y)) ∧ ∃ q os', w' = grow (w.drewN q) os' := by
  have HC : Hid _ := fun W => cmp_t x.1 y.1 W
  unfold cmpF
  generalize Lib.compareInt x.1 y.1 = r at HC ⊢
  go_enter Tryz.func105, Tryz.ntmps105
  go_wp2_with (go_at_call 106; refine Calls.mono (HC.out _) ?_; rintro e w' ⟨rfl, rfl⟩)
  go_ret
  exact ⟨rfl, 0, _, by rw [alloc_eq_grow, alloc_eq_grow, grow_grow]; rfl⟩
theorem laysF (g o n : Nat) (w : World) : CmpLays Tryz.prog 105 #[] rv 2 cmpF g o n w := fun _ _ _ _ x y => clos_t x y _
theorem sort_s (B g cap : Nat) (xs : List Rg) (w : World) (h : OwnR w B (.slice (some ⟨g, 0, none⟩) xs.length cap) xs) (hl : xs.length ≤ 1099511627776) :
    Calls Tryz.prog 104 #[.slice (some ⟨g, 0, none⟩) xs.length cap, .func (.func 105) #[] #[]] w fun e w' => e = .returned (.tuple #[]) ∧ ∃ ys : List Rg, ys.Perm xs ∧ ys.Pairwise (fun x y => x.1 ≤ y.1) ∧ OwnR w' B (.slice (some ⟨g, 0, none⟩) xs.length cap) ys ∧ w.grownBy w' (some g) := by
  rcases h.2 with ⟨h0, _⟩ | ⟨g', cap', cur, hv, hB, hg, hn, hm, hs, ht⟩
  · cases h0
  · simp only [Value.slice.injEq, Option.some.injEq, Addr.mk.injEq] at hv
    obtain ⟨⟨rfl, -⟩, -, rfl⟩ := hv
    have eg : ∀ args w, (callFunc 105 args).run Tryz.prog w = .ok (.enter 105 args) w := enters_of Tryz.func105 (by kernel_rfl) rfl
    have hcon := AnyQ.slices_SortFunc Tryz.sortR 2 Tryz.isAgg71 Tryz.sizeOf71 rv (fun _ => rfl) (fun x v hv => by simp at hv; rcases hv with rfl | rfl <;> rfl) cmpF swoF 105 #[] g 0 cap xs.toArray w eg (laysF g 0 _ w) (holdsR hg ht) (Array.getElem?_eq_some_iff.1 hg).1 (by simp; omega)
    change Calls Tryz.prog 104 #[.slice (some ⟨g, 0, none⟩) xs.length cap, _] w _ at hcon
    refine hcon.mono ?_
    rintro e w' ⟨rfl, d', n, os, hp, hso, rfl⟩
    have hpp : d'.toList.Perm xs := by simpa using perm_of_in hp
    refine ⟨rfl, d'.toList, hpp, pair_of_sorted (by rw [hp.1]) hso, ?_, grown_sortR _⟩
    have e9 : d' = d'.toList.toArray := by simp
    rw [e9]
    simp only [List.toList_toArray]
    exact ownR_sorted (hpp.length_eq) hB hg hn hm hs
end
end Go.Proofs.YtdoikcolkbjnfaaGreat
