import Derived.Test.YtgdkiejlggiakacDNilC
import Derived.Test.YtgdkiejlggiakacShelf
import Derived.Sort.OwnSortedInts
import Derived.Deep.AppendLies
namespace Go.Proofs.Ytgdkiejlggiakac
set_option linter.unusedVariables false
set_option linter.unusedSimpArgs false
open Go.RowKit Go.Maps Go.Sort
/-- a row of ints of the call's own -/
def OwnI (w : World) (B : Nat) (v : Value) (xs : List Int) : Prop := w.ownsRow B 3 1 v xs.length (xs.map (Value.int .i64))
theorem infoI : (Try.prog.info? 3).map (fun i => (i.zero, i.size, i.bytes)) = some (some (.int .i64 0), 1, 8) := by kernel_rfl
theorem OwnI.val {w : World} {B : Nat} {v : Value} {xs : List Int} (h : OwnI w B v xs) : ∃ a c, v = .slice a xs.length c ∧ (0 < xs.length → ∃ g, a = some ⟨g, 0, none⟩ ∧ B ≤ g ∧ g < w.heap.size ∧ ∀ j (hj : j < xs.length), w.cell? ⟨g, j, none⟩ = some (.int .i64 xs[j])) := by
  have hlt := World.ownsRow.lt h
  rcases h.2 with ⟨rfl, h0⟩ | ⟨g, cap, cur, rfl, hB, hg, hn, hm, hs, ht⟩
  · exact ⟨none, 0, by rw [h0], fun hp => by omega⟩
  · refine ⟨_, cap, rfl, fun hp => ⟨g, rfl, hB, (hlt g rfl).2, fun j hj => ?_⟩⟩
    have h1 := World.ownsRow.cellAt h j (by omega)
    rw [h1]
    simp [hj]
theorem OwnI.grown {w w' : World} {B : Nat} {v : Value} {xs : List Int} {row : Option Nat} (h : OwnI w B v xs) (hg : w.grownBy w' row) (hne : v.ownBlock = none ∨ v.ownBlock ≠ row) : OwnI w' B v xs := World.ownsRow.kept h hg hne
theorem OwnI.below {w w' : World} {B : Nat} {v : Value} {xs : List Int} (h : OwnI w B v xs) (hb : Below w.heap.size w w') : OwnI w' B v xs :=
  h.grown (gr_below (World.grownBy.refl w none) hb) (by cases hv : v.ownBlock <;> simp)
theorem OwnI.nil (w : World) (B : Nat) : OwnI w B nilS [] := World.ownsRow_nil _ _ _ _
theorem OwnI.base {w : World} {B B' : Nat} {v : Value} {xs : List Int} (h : OwnI w B v xs) (hB : B' ≤ B) : OwnI w B' v xs := by
  refine ⟨h.1, ?_⟩
  rcases h.2 with h0 | ⟨g, cap, cur, hv, hg, r⟩
  · exact .inl h0
  · exact .inr ⟨g, cap, cur, hv, Nat.le_trans hB hg, r⟩
/-- append of one int that has just been laid -/
theorem wp_appI {w : World} {ops : Array Oper} {rest : List Oper} {o : Oper} {a : Act} {Q : Exit → Act → World → Prop} (hgd : o.guard = none) (s x : Operand)
    (ho : o.op = .call { callee := .builtin .append, args := #[s, x], argTypes := #[37, 37] }) (B : Nat) (v : Value) (xs : List Int) (y : Int) (g : Nat)
    (hs : a.eval s = v) (hown : OwnI w B v xs) (hx : a.eval x = .slice (some ⟨g, 0, none⟩) 1 1) (hg : w.heap[g]? = some (.cells #[.int .i64 y] 3 (0, 0))) (hb : xs.length ≤ 1099511627776) (hbase : B ≤ w.heap.size)
    (h : ∀ g' cap w', OwnI w' B (.slice (some ⟨g', 0, none⟩) (xs.length + 1) cap) (xs ++ [y]) → w.grownBy w' v.ownBlock → (v.ownBlock = some g' ∨ g' = w.heap.size) → wpList Try.prog ops Q rest (a.put o.dst (.slice (some ⟨g', 0, none⟩) (xs.length + 1) cap)) w') : wpList Try.prog ops Q (o :: rest) a w := by
  obtain ⟨i0, hi, hz0, hz1, hz2⟩ := info_parts infoI
  refine wpList_append_lies w hgd s x 37 ho B 3 i0 (.int .i64 0) 1 8 Try.underlying37 hi hz0 hz1 hz2 rfl (by decide) v xs.length (xs.map (Value.int .i64)) hs hown ⟨g, 0, none⟩ 1 1 [.int .i64 y] hx rfl (World.news_of_block hg) (by intro u hu; simp at hu; subst hu; rfl) (by decide) (by simp only [maxLen]; omega) (by omega) hbase w.heap.size rfl ?_
  intro g' cap w' h1 h2 h3 _
  refine h g' cap w' ?_ h2 h3
  unfold OwnI
  rw [List.length_append, List.map_append]
  exact h1
/-- the library's sort, on a row of the call's own -/
theorem sort_own (B : Nat) (v : Value) (zs : List Int) (w : World) (h : OwnI w B v zs) (hl : zs.length ≤ 1099511627776) :
    Calls Try.prog 27 #[v] w fun e w' => e = .returned (.tuple #[]) ∧ OwnI w' B v (zs.mergeSort fun x y => decide (x ≤ y)) ∧ w.grownBy w' v.ownBlock := by
  have hsl : (zs.mergeSort fun x y => decide (x ≤ y)).length = zs.length := by simp
  by_cases h0 : zs = []
  · subst h0
    obtain ⟨a, c, rfl, -⟩ := h.val
    refine (Try.slices_Sort_int_none a c w).mono ?_
    rintro e w' ⟨rfl, rfl⟩
    exact ⟨rfl, by simpa using h, World.grownBy.refl _ _⟩
  · rcases h.2 with ⟨rfl, h1⟩ | ⟨g, cap, cur, rfl, hB, hg, hn, hm, hs, ht⟩
    · exact absurd (List.eq_nil_of_length_eq_zero h1) h0
    · have hlt := (Array.getElem?_eq_some_iff.1 hg).1
      rw [Nat.mul_one] at ht hs
      refine (Try.slices_Sort_int g 0 cap zs w (holds_of_blockI hg ht) hlt (by omega)).mono ?_
      rintro e w' ⟨rfl, n, os, rfl⟩
      refine ⟨rfl, ?_, grownBy_sortedI _⟩
      unfold OwnI
      rw [hsl]
      exact ownsRow_sortedI hsl hB hg hn hm (by rw [Nat.mul_one]; exact hs)
theorem sorted_ext : ∀ (l l' : List Int), l.Pairwise (· < ·) → l'.Pairwise (· < ·) → (∀ x, x ∈ l ↔ x ∈ l') → l = l'
  | [], [], _, _, _ => rfl
  | [], y :: l', _, _, h => absurd ((h y).2 (by simp)) (by simp)
  | x :: l, [], _, _, h => absurd ((h x).1 (by simp)) (by simp)
  | x :: l, y :: l', h1, h2, h => by
    obtain ⟨a1, a2⟩ := List.pairwise_cons.1 h1
    obtain ⟨b1, b2⟩ := List.pairwise_cons.1 h2
    have hxy : x = y := by
      rcases List.mem_cons.1 ((h x).1 (by simp)) with e | e
      · exact e
      · rcases List.mem_cons.1 ((h y).2 (by simp)) with e' | e'
        · exact e'.symm
        · have := b1 x e; have := a1 y e'; omega
    subst hxy
    rw [sorted_ext l l' a2 b2 (fun z => ?_)]
    constructor
    · intro hz
      rcases List.mem_cons.1 ((h z).1 (by simp [hz])) with e | e
      · have := a1 z hz; omega
      · exact e
    · intro hz
      rcases List.mem_cons.1 ((h z).2 (by simp [hz])) with e | e
      · have := b1 z hz; omega
      · exact e
theorem sort_strict (l : List Int) (h : l.Nodup) : (l.mergeSort fun x y => decide (x ≤ y)).Pairwise (· < ·) := by
  have h1 : (l.mergeSort fun x y => decide (x ≤ y)).Pairwise (fun x y => decide (x ≤ y) = true) := List.pairwise_mergeSort (fun a b c h1 h2 => by simp at *; omega) (fun a b => by simp; omega) l
  have h2 : (l.mergeSort fun x y => decide (x ≤ y)).Nodup := (List.mergeSort_perm l _).nodup_iff.2 h
  exact (h1.and h2).imp (fun hab => by have := hab.1; have := hab.2; simp at *; omega)
/-- the dirty sectors, rising -/
def dirtyN (N : Nat) (C : Nat → List (List UInt8)) : List Nat := (List.range N).filter fun k => !(C k).isEmpty
def dirtyL (N : Nat) (C : Nat → List (List UInt8)) : List Int := (dirtyN N C).map fun (k : Nat) => (k : Int)
def dirtyC (N : Nat) (C : Nat → List (List UInt8)) : List Int := (dirtyN N C).map fun (k : Nat) => ((C k).length : Int)
theorem dirtyN_mem {N k : Nat} {C : Nat → List (List UInt8)} : k ∈ dirtyN N C ↔ k < N ∧ C k ≠ [] := by simp [dirtyN, List.isEmpty_iff]
theorem dirtyL_strict (N : Nat) (C : Nat → List (List UInt8)) : (dirtyL N C).Pairwise (· < ·) := by
  unfold dirtyL dirtyN
  rw [List.pairwise_map]
  exact (List.pairwise_lt_range.filter _).imp (fun h => by omega)
theorem dirty_sorted {N : Nat} {C : Nat → List (List UInt8)} (ks : List Nat) (h : ks.Nodup) (hm : ∀ k, k ∈ ks ↔ k < N ∧ C k ≠ []) : ((ks.map fun (k : Nat) => (k : Int)).mergeSort fun x y => decide (x ≤ y)) = dirtyL N C := by
  apply sorted_ext _ _ (sort_strict _ ?_) (dirtyL_strict N C)
  · intro x
    rw [(List.mergeSort_perm _ _).mem_iff]
    unfold dirtyL
    simp only [List.mem_map]
    constructor
    · rintro ⟨k, hk, rfl⟩; exact ⟨k, dirtyN_mem.2 ((hm k).1 hk), rfl⟩
    · rintro ⟨k, hk, rfl⟩; exact ⟨k, (hm k).2 (dirtyN_mem.1 hk), rfl⟩
  · rw [List.nodup_iff_pairwise_ne, List.pairwise_map] 
    exact (List.nodup_iff_pairwise_ne.1 h).imp (fun h => by omega)
end Go.Proofs.Ytgdkiejlggiakac
namespace Go.Proofs.Ytgdkiejlggiakac
set_option linter.unusedVariables false
set_option linter.unusedSimpArgs false
open Go.RowKit Go.Maps Go.Sort
/-- the keys that have come -/
structure Came (N : Nat) (C : Nat → List (List UInt8)) (left : Lit → Bool) (ks : List Nat) : Prop where
  nod : ks.Nodup
  mem : ∀ k, k ∈ ks ↔ k < N ∧ C k ≠ [] ∧ left (kI k) = false
theorem Came.step {N : Nat} {C : Nat → List (List UInt8)} {left : Lit → Bool} {ks : List Nat} (h : Came N C left ks) (hN : N ≤ 65536) {i : Nat} (hi : i < N) (hc : C i ≠ []) (hl : left (kI i) = true) : Came N C (fun z => left z && !z.sameKey (kI i)) (ks ++ [i]) := by
  have hself := WideAt.sameKey_self (kI_key (show i ≤ 65536 by omega))
  have hoth : ∀ k, k ≠ i → (kI k).sameKey (kI i) = false := fun k hk => by
    cases h : (kI k).sameKey (kI i)
    · rfl
    · exact absurd (WideAt.sameKey_eq h) (kI_ne hk)
  refine ⟨?_, fun k => ?_⟩
  · rw [List.nodup_append]
    refine ⟨h.nod, by simp, fun a ha b hb => ?_⟩
    rw [List.mem_singleton.1 hb]
    intro e
    subst e
    have := ((h.mem a).1 ha).2.2
    rw [hl] at this
    cases this
  · rw [List.mem_append, h.mem k, List.mem_singleton]
    by_cases e : k = i
    · subst e
      simp [hi, hc, hself]
    · simp [e, hoth k e]
theorem Came.done {N : Nat} {C : Nat → List (List UInt8)} {left : Lit → Bool} {ks : List Nat} (h : Came N C left ks) (hl : ∀ kl, left kl = false) : ∀ k, k ∈ ks ↔ k < N ∧ C k ≠ [] := fun k => by rw [h.mem k]; simp [hl]
theorem take_map_snoc (l : List Nat) (f : Nat → Int) (k : Nat) (h : k < l.length) : (l.map f).take (k + 1) = (l.map f).take k ++ [f l[k]] := by
  rw [List.take_succ_eq_append_getElem (by simpa using h)]
  simp
set_option maxRecDepth 20000 in
set_option maxHeartbeats 800000 in
theorem dirty_t (p g m : Nat) (S : List Sec) (C : Nat → List (List UInt8)) (V : Nat → Value) (off : Bool) (fuse : Int) (n : Nat) (w : World) (h : DK w p g m S C V off fuse n) :
    Calls Try.prog 14 #[.pointer (some ⟨p, 0, none⟩)] w fun e w' => ∃ v u, e = .returned (.tuple #[v, u]) ∧ OwnI w' w.heap.size v (dirtyL S.length C) ∧ OwnI w' w.heap.size u (dirtyC S.length C) ∧ (u.ownBlock = none ∨ v.ownBlock ≠ u.ownBlock) ∧ Below w.heap.size w w' := by
  have h0 : w.cell? ⟨p, 0, none⟩ = some (.slice (some ⟨g, 0, none⟩) S.length S.length) := by rw [cell_of_row _ _ 0 _ _ _ h.hp]; rfl
  have hpm : w.cell? ⟨p, 1, none⟩ = some (.map (some m)) := by rw [cell_of_row _ _ 1 _ _ _ h.hp]; rfl
  have hpos : 0 < S.length := h.one
  have hpl := World.block_lt_of_cell? w _ hpm
  have hml : m < w.heap.size := h.lt (.inr (.inr (.inl rfl)))
  have HD : Hid _ := h
  obtain ⟨D, hDo, hDa, hDk⟩ := h.cache.own
  have HDA : Hid _ := hDa
  have HDK : Hid _ := hDk
  have hmost := h.most
  have hfew := h.few
  have hszD : Maps.size D ≤ n := by
    obtain ⟨es, cl, -, -, h3, rfl⟩ := hDo
    show (List.foldr DataW.insert [] _).length ≤ n
    rw [length_sorted]
    simpa using h3
  clear h hDa hDk
  go_enter Try.func14, Try.ntmps14
  go_wp2_with (first
    | (go_at_call 26; refine (made_t p _ _ _ _ h0).mono ?_; rintro e w1 ⟨rfl, hq⟩; have hq := hq.symm; subst hq; rw [decide_eq_true hpos])
    | (at_range; refine wpList_range_own _ rfl _ 53 rfl 3 63 keyI Try.underlying53 selfR m n D rfl hDo ?_; intro w3 hrg3 hg3 hs3))
  go_frame
  obtain ⟨R, hR⟩ : ∃ R : Nat, R = w.heap.size := ⟨_, rfl⟩
  rw [← hR] at hrg3 ⊢
  have hc3 : Came S.length C (Maps.has D) [] := ⟨by simp, fun k => by
    simp only [List.not_mem_nil, false_iff]
    rintro ⟨-, h2, h3⟩
    rw [has_true_of_atKey (HDA.out k h2)] at h3
    cases h3⟩
  have hb3 : Below w.heap.size w w3 := (Below.refl _ w).grown hg3 (Nat.le_refl _) (fun k hk => by cases hk)
  have HR : Hid (R = w.heap.size) := hR
  clear hR
  go_loopw [2, 4] (fun v _ wr => ∃ (left : Lit → Bool) (cnt : Nat) (ks : List Nat), wr.ranges Try.prog 3 selfR m R n D left cnt ∧ Came S.length C left ks ∧ ks.length + cnt ≤ n ∧ OwnI wr (w.heap.size + 1) v (ks.map fun (k : Nat) => (k : Int)) ∧ Below w.heap.size w wr ∧ w.heap.size + 1 ≤ wr.heap.size) (fun _ _ wr => wr.rangeLeft m R)
  case atStart => exact ⟨_, _, [], hrg3, hc3, by simpa using hszD, OwnI.nil _ _, hb3, by omega⟩
  case round =>
    obtain ⟨left, cnt, ks, hrg, hcm, hle, hown, hbw, hsw⟩ := hrel
    clear hrg3 hc3 hb3
    have hkl : (ks.map fun (k : Nat) => (k : Int)).length = ks.length := by simp
    go_wp2_with (first
      | (at_next; refine wpList_next_ranges _ rfl _ rfl 3 keyI selfR (Value.int .i64) (fun v : Value => v) (fun key kl hkey => by obtain ⟨x, rfl, _⟩ := Maps.keyOf_int_inv Try.underlying3 hkey; exact ⟨x, rfl⟩) (fun v y _ => ⟨v, rfl⟩) m R n D left cnt rfl hrg ?_ ?_))
    · intro _ hl0
      obtain ⟨X, hX⟩ : ∃ X : List Int, X = ks.map fun (k : Nat) => (k : Int) := ⟨_, rfl⟩
      have hXs := dirty_sorted ks hcm.nod (hcm.done hl0)
      rw [← hX] at hown hkl hXs
      have HSO : Hid _ := sort_own (w.heap.size + 1) u2 X wr hown (by omega)
      rw [hXs] at HSO
      have hlt5 : ∀ b, u2.ownBlock = some b → w.heap.size + 1 ≤ b := fun b hb => (World.ownsRow.lt hown b hb).1
      have hXD : X.length = (dirtyN S.length C).length := by
        have h9 := congrArg List.length hXs
        rw [List.length_mergeSort] at h9
        rw [h9]
        simp [dirtyL]
      obtain ⟨av, cv, hvv, -⟩ := hown.val
      have HXD : Hid _ := hXD
      have hDl : (dirtyN S.length C).length ≤ n := by omega
      clear hX hXs hcm hown hrg hXD
      obtain ⟨L, hL⟩ : ∃ L : Nat, L = X.length := ⟨_, rfl⟩
      rw [← hL] at hvv
      subst hvv
      have HL : Hid (L = (dirtyN S.length C).length) := by unfold Hid; rw [hL]; exact HXD.out
      clear hL
      go_wp2_with fail
      refine Calls.mono HSO.out ?_
      rintro e w6 ⟨rfl, hown6, hg6⟩
      have hb6 : Below w.heap.size w w6 := hbw.grown hg6 hbw.size (fun j hj => by have := hlt5 j hj; omega)
      have hs6 := hg6.size
      have hD6 : DK w6 p g m S C V off fuse n := DK.kept HD.out (Chg.of_below (F := fun _ => False) hb6) (fun _ _ hf => hf)
      have hLn : L ≤ n := by have := HL.out; omega
      have hdl : (dirtyL S.length C).length = L := by rw [HL.out]; simp [dirtyL]
      have hb6s := hb6.size
      have HDl : Hid _ := hdl
      clear hkl hdl
      go_wp2_with fail
      go_loopw [27, 3] (fun i u wr => ∃ k : Nat, k ≤ L ∧ i = .int .i64 k ∧ OwnI wr w6.heap.size u ((dirtyC S.length C).take k) ∧ Below w6.heap.size w6 wr) (fun i _ _ => L - (intOf i).toNat)
      case atStart => exact ⟨0, Nat.zero_le _, rfl, by rw [List.take_zero]; exact OwnI.nil _ _, Below.refl _ _⟩
      case round =>
        obtain ⟨k, hk, rfl, hou, hbr⟩ := hrel
        by_cases hlt : k < L
        · have hkd : k < (dirtyN S.length C).length := by have := HL.out; omega
          obtain ⟨i, hi⟩ : ∃ i : Nat, i = (dirtyN S.length C)[k] := ⟨_, rfl⟩
          have hiN : i < S.length := by rw [hi]; exact (dirtyN_mem.1 (List.getElem_mem hkd)).1
          obtain ⟨av', cv', hvv', hcell⟩ := hown6.val
          simp only [Value.slice.injEq] at hvv'
          obtain ⟨rfl, -, rfl⟩ := hvv'
          obtain ⟨gv, rfl, -, -, hcl⟩ := hcell (by rw [HDl.out]; omega)
          have hck : wr.cell? ⟨gv, k, none⟩ = some (.int .i64 (i : Int)) := by
            have h9 := hcl k (by rw [HDl.out]; exact hlt)
            have h10 : (dirtyL S.length C)[k]'(by rw [HDl.out]; exact hlt) = (i : Int) := by rw [hi]; simp [dirtyL]
            rw [h10] at h9
            exact (hbr.cell (World.block_lt_of_cell? _ _ h9)).trans h9
          have hDr := hD6.below hbr
          obtain ⟨a4, c4, hV4, hL4⟩ := hDr.looks i hiN
          have hlk := hL4.run wr (Below.refl _ _)
          have hpm2 : wr.cell? ⟨p, 1, none⟩ = some (.map (some m)) := by rw [cell_of_row _ _ 1 _ _ _ hDr.hp]; rfl
          have hsn := take_map_snoc (dirtyN S.length C) (fun j => ((C j).length : Int)) k hkd
          rw [← hi] at hsn
          have HSN : Hid ((dirtyC S.length C).take (k + 1) = (dirtyC S.length C).take k ++ [((C i).length : Int)]) := hsn
          have hk0 : (0 : Int) ≤ (k : Int) := by omega
          have hk1 : (k : Int) < (L : Int) := by omega
          obtain ⟨Y, hY⟩ : ∃ Y : List Int, Y = (dirtyC S.length C).take k := ⟨_, rfl⟩
          rw [← hY] at hou HSN
          have hYl : Y.length ≤ 1099511627776 := by rw [hY, List.length_take]; omega
          have hou4 : ∀ o, OwnI (wr.alloc o) w6.heap.size u3 Y := fun o => hou.below (al (Below.refl _ _) o)
          have hsz4 : w6.heap.size ≤ (wr.alloc (.cells #[.int .i64 ((C i).length : Int)] 3)).heap.size := by have := hbr.size; simp; omega
          have hlt5 : ∀ b, u3.ownBlock = some b → w6.heap.size ≤ b := fun b hb => (World.ownsRow.lt hou b hb).1
          clear hi hV4 hL4 hcl hcell hsn hY hDr
          go_wp2_with (first
            | (at_builtin; refine wp_appI rfl _ _ rfl w6.heap.size u3 Y ((C i).length : Int) wr.heap.size rfl (hou4 _) rfl (heap_alloc_new wr _) hYl hsz4 ?_; intro g7 cap7 w7 hown7 hg7 hat7))
          go_roundw
          case rel =>
            have hg47 : wr.grownBy w7 u3.ownBlock := ((World.grownBy_alloc wr _ none).any _).trans' hg7
            refine ⟨k + 1, by omega, by go_num, by rw [HSN.out]; exact hown7, hbr.grown hg47 hbr.size (fun j hj => hlt5 j hj)⟩
          case measure => simp [intOf]; omega
        · have hkL : (dirtyC S.length C).take k = dirtyC S.length C := List.take_of_length_le (by have := HL.out; simp [dirtyC]; omega)
          rw [hkL] at hou
          have hne : u3.ownBlock = none ∨ (Value.slice av L cv).ownBlock ≠ u3.ownBlock := by
            cases hq : u3.ownBlock with
            | none => exact .inl rfl
            | some b =>
              refine .inr (fun e => ?_)
              have h1 := (World.ownsRow.lt hou b hq).1
              have h2 := (World.ownsRow.lt hown6 b e).2
              omega
          clear hkL
          go_wp2
          go_ret2
          exact ⟨_, _, rfl, (hown6.below hbr).base (by omega), hou.base hb6s, hne, hb6.trans (hbr.mono hb6s)⟩
    · intro x c kl yd yp w4 cnt4 hkey hlk hv hat hrg4 hltc hg4 hs4 hen
      obtain ⟨i, hiN, hkl2, hci⟩ := HDK.out kl (has_true_of_atKey hat)
      have hxi : x = (i : Int) := by
        obtain ⟨x', e1, e2, _⟩ := Maps.keyOf_int_inv Try.underlying3 hkey
        cases e1
        rw [e2] at hkl2
        exact (Lit.int.inj hkl2).2
      subst hxi
      subst hkl2
      obtain ⟨X, hX⟩ : ∃ X : List Int, X = ks.map fun (k : Nat) => (k : Int) := ⟨_, rfl⟩
      rw [← hX] at hown hkl
      have HX : Hid _ := hX
      have hvR : u2.ownBlock = none ∨ u2.ownBlock ≠ some R := .inr (fun e => row_ne_low hown (b := R) (by rw [HR.out]; exact Nat.lt_succ_self _) e.symm)
      have hvm : some m ≠ u2.ownBlock := row_ne_low hown (by omega)
      have hvR2 : some R ≠ u2.ownBlock := row_ne_low hown (by rw [HR.out]; exact Nat.lt_succ_self _)
      have hown4 := hown.grown hg4 hvR
      have hown4a : ∀ o, OwnI (w4.alloc o) (w.heap.size + 1) u2 X := fun o => hown4.below (al (Below.refl _ _) o)
      have hsz4 : w.heap.size + 1 ≤ (w4.alloc (.cells #[.int .i64 (i : Int)] 3)).heap.size := by have := hg4.size; simp; omega
      have hlt5 : ∀ b, u2.ownBlock = some b → w.heap.size + 1 ≤ b := fun b hb => (World.ownsRow.lt hown b hb).1
      have hXl : X.length ≤ 1099511627776 := by omega
      have HS4 : Hid _ := hs4
      have HKL : Hid _ := hkl
      clear hX hs4 hkl
      go_wp2_with (first
        | (at_builtin; (refine wp_appI rfl _ _ rfl (w.heap.size + 1) u2 X (i : Int) w4.heap.size rfl (hown4a _) rfl (heap_alloc_new w4 _) hXl hsz4 ?_; intro g5 cap5 w5 hown5 hg5 hat5)))
      go_roundw
      case rel =>
        have hs4' := hg4.size
        have hg45 : w4.grownBy w5 u2.ownBlock := ((World.grownBy_alloc w4 _ none).any _).trans' hg5
        refine ⟨_, cnt4, ks ++ [i], hrg4.kept hg45 hvm hvR2, hcm.step hmost hiN hci hlk, by have := HKL.out; rw [List.length_append]; simp; omega, ?_, ?_, ?_⟩
        · rw [List.map_append, ← HX.out]
          exact hown5
        · exact (hbw.grown hg4 hbw.size (fun j hj => by cases hj; rw [HR.out]; exact Nat.le_refl _)).grown hg45 (by have := hbw.size; omega) (fun j hj => by have := hlt5 j hj; omega)
        · have := hg45.size; omega
      case measure =>
        have hg45 : w4.grownBy w5 u2.ownBlock := ((World.grownBy_alloc w4 _ none).any _).trans' hg5
        rw [(hrg4.kept hg45 hvm hvR2).left_eq, hrg.left_eq]
        exact hltc
end Go.Proofs.Ytgdkiejlggiakac
