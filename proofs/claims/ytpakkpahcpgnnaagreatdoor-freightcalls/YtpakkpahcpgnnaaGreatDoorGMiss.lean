import Derived.Test.YtpakkpahcpgnnaaGreatDoorGRMiss
import Derived.Test.YtpakkpahcpgnnaaGreatDoorGShelf
import Derived.Shelf.SlSortCmp.NoneTotal
set_option linter.unusedVariables false
set_option linter.unusedSimpArgs false
namespace Go.Proofs.YtpakkpahcpgnnaaGreatDoor
open Go.RowKit Go.Shelf Go.Sort
theorem flatK_rv (xs : List Rg) : flatK rv 2 xs.toArray = (flatR xs).toArray := by
 refine ext_get! (by simp [flatR_len]) fun t ht => ?_
 have ht' : t < xs.length * 2 := by simpa using ht
 rw [get_flatK _ _ _ t (by simpa using ht')]; have hq : t / 2 < xs.length := by omega
 obtain ⟨h1, h2⟩ := flatR_get xs (t / 2) hq; have hx : xs.toArray[t / 2]! = xs[t / 2] := by rw [getElem!_pos _ _ (by simpa using hq)]; simp
 rw [hx, getElem!_pos (flatR xs).toArray t (by simp [flatR_len]; omega)]; rcases Nat.mod_two_eq_zero_or_one t with h | h
 · rw [h]; rw [show t / 2 * 2 = t from by omega] at h1; obtain ⟨_, h3⟩ := List.getElem?_eq_some_iff.1 h1; simp [h3]
 · rw [h]; rw [show t / 2 * 2 + 1 = t from by omega] at h2; obtain ⟨_, h3⟩ := List.getElem?_eq_some_iff.1 h2; simp [h3]
theorem holdsR {w : World} {g : Nat} {cur : Array Value} {e : TypeId} {xs : List Rg} (hb : w.heap[g]? = some (.cells cur e (0, 0))) (ht : cur.toList.take (xs.length * 2) = flatR xs) : HoldsK rv 2 w g 0 xs.toArray := by
 unfold HoldsK; rw [flatK_rv]; intro j hj; have hj' : j < (flatR xs).length := by simpa using hj
 have hj2 : j < xs.length * 2 := by rw [flatR_len] at hj'; exact hj'
 refine ⟨?_, by simp [World.frozen?, hb]⟩; have h1 : (cur.toList.take (xs.length * 2))[j]? = (flatR xs)[j]? := by rw [ht]
 rw [List.getElem?_take_of_lt hj2] at h1; simp only [World.cell?, hb, Nat.zero_add]; simp only [Option.isSome_none, Bool.false_eq_true, if_false]; rw [← Array.getElem?_toList, h1]; simp [hj']
theorem heap_sortR {w : World} {g n : Nat} {os : Array Obj} {cur : Array Value} {e : TypeId} {fr : Nat × Nat} (d : Array Rg) (hb : w.heap[g]? = some (.cells cur e fr)) :
 (sortWorldK rv 2 w g 0 n d os).heap[g]? = some (.cells (putCells id 0 (flatK rv 2 d) cur) e fr) := by
 have hg : g < w.heap.size := (sI hb).1; unfold sortWorldK putRowK; rw [heap_grow_old _ _ (by simpa using hg)]; simp [putRow, mapBlock, Sort.ahead, Array.getElem?_modify, hb, onCells]
theorem grown_sortR {w : World} {g n : Nat} {os : Array Obj} (d : Array Rg) : w.grownBy (sortWorldK rv 2 w g 0 n d os) (some g) := by
 unfold sortWorldK putRowK; refine ⟨rfl, rfl, rfl, by simp, fun k hk hne => ?_⟩; rw [heap_grow_old _ _ (by simpa using hk)]; have : g ≠ k := fun e => hne (by rw [e])
 simp [putRow, mapBlock, Sort.ahead, Array.getElem?_modify, this]
theorem take_putR (cur : Array Value) (ys : List Rg) (h : ys.length * 2 ≤ cur.size) : (putCells id 0 (flatR ys).toArray cur).toList.take (ys.length * 2) = flatR ys := by
 apply List.ext_getElem?; intro j
 by_cases hj : j < ys.length * 2
 · have hj' : j < (flatR ys).length := by rw [flatR_len]; exact hj
   rw [List.getElem?_take_of_lt hj, Array.getElem?_toList]; simp [putCells, hj', show j < cur.size by omega]
 · rw [List.getElem?_take_eq_none (by omega), List.getElem?_eq_none (by rw [flatR_len]; omega)]
theorem ownR_sorted {w : World} {B g cap n : Nat} {os : Array Obj} {cur : Array Value} {xs ys : List Rg} (hl : ys.length = xs.length) (hB : B ≤ g) (hb : w.heap[g]? = some (.cells cur 108 (0, 0)))
 (h1 : xs.length ≤ cap) (h2 : cap ≤ maxLen) (h3 : cur.size = cap * 2) : OwnR (sortWorldK rv 2 w g 0 n ys.toArray os) B (.slice (some ⟨g, 0, none⟩) xs.length cap) ys := by
 refine ⟨flatR_len ys, .inr ⟨g, cap, _, by rw [hl], hB, heap_sortR _ hb, by omega, h2, by simp [putCells, h3], ?_⟩⟩; rw [flatK_rv]; exact take_putR cur ys (by omega)
abbrev cmpF (x y : Rg) : Int := Lib.compareInt x.1 y.1
theorem ltF (x y : Rg) : ltOf cmpF x y = decide (x.1 < y.1) := by
 unfold ltOf cmpF Lib.compareInt; rcases Int.lt_trichotomy x.1 y.1 with h | h | h
 · simp [h]
 · simp [h]
 · simp [show ¬ x.1 < y.1 by omega, h]
theorem swoF : SWO (ltOf cmpF) := {
 irrefl := fun x => by rw [ltF]; simp
 trans := fun x y z h1 h2 => by rw [ltF] at *; simp at *; omega
 ntrans := fun x y z h1 h2 => by rw [ltF] at *; simp at *; omega }
theorem perm_of_in {d d' : Array Rg} (h : PermIn 0 d.size d d') : d'.toList.Perm d.toList := by
 obtain ⟨h1, -, h3⟩ := h; have e : d'.extract 0 d.size = d' := by rw [← h1]; simp
 rw [e] at h3
 simpa using h3
theorem pair_of_sorted {d : Array Rg} {n : Nat} (hn : n = d.size) (h : SortedIn (ltOf cmpF) 0 n d) : d.toList.Pairwise (fun x y => x.1 ≤ y.1) := by
 rw [List.pairwise_iff_getElem]; intro i j hi hj hij; have h9 := h i j (Nat.zero_le _) hij (by rw [hn]; simpa using hj); rw [ltF, getElem!_pos d i (by simpa using hi), getElem!_pos d j (by simpa using hj)] at h9; simp at h9
 simpa using h9
section
set_option maxRecDepth 20000
set_option maxHeartbeats 1600000
theorem nan_t (x : Int) (w : World) : Calls Tryz.prog 115 #[.int .i64 x] w fun e w' => e = .returned (.bool false) ∧ w' = w := by
 go_enter Tryz.func115, Tryz.ntmps115
 go_wp2; go_ret; exact ⟨by simp, rfl⟩
theorem cmp_t (x y : Int) (w : World) : Calls Tryz.prog 83 #[.int .i64 x, .int .i64 y] w fun e w' => e = .returned (.int .i64 (Lib.compareInt x y)) ∧ w' = w := by
 have HR : Hid (Lib.compareInt x y = if x < y then -1 else if x > y then 1 else 0) := rfl; obtain ⟨r, hr⟩ : ∃ r, r = Lib.compareInt x y := ⟨_, rfl⟩; rw [← hr]; have HQ : Hid (r = if x < y then -1 else if x > y then 1 else 0) := by unfold Hid; rw [hr]; exact HR.out
 clear hr HR
 by_cases h1 : x < y
 · have h9 : Hid (r = -1) := by have := HQ.out; unfold Hid; rw [if_pos h1] at this; exact this
   clear HQ; go_enter Tryz.func83, Tryz.ntmps83
   go_wp2_with (go_at_call 115; refine (nan_t _ _).mono ?_; rintro e w' ⟨rfl, rfl⟩)
   go_ret; rw [h9.out]; exact ⟨rfl, rfl⟩
 · by_cases h2 : y < x
   · have h9 : Hid (r = 1) := by have := HQ.out; unfold Hid; rw [if_neg h1, if_pos h2] at this; exact this
     clear HQ; go_enter Tryz.func83, Tryz.ntmps83
     go_wp2_with (go_at_call 115; refine (nan_t _ _).mono ?_; rintro e w' ⟨rfl, rfl⟩)
     go_ret; rw [h9.out]; exact ⟨rfl, rfl⟩
   · have h9 : Hid (r = 0) := by have := HQ.out; unfold Hid; rw [if_neg h1, if_neg h2] at this; exact this
     clear HQ; go_enter Tryz.func83, Tryz.ntmps83
     go_wp2_with (go_at_call 115; refine (nan_t _ _).mono ?_; rintro e w' ⟨rfl, rfl⟩)
     go_ret; rw [h9.out]; exact ⟨rfl, rfl⟩
theorem clos_t (x y : Rg) (w : World) : Calls Tryz.prog 82 #[.agg #[.int .i64 x.1, .int .i64 x.2], .agg #[.int .i64 y.1, .int .i64 y.2]] w fun e w' => e = .returned (.int .i64 (cmpF x y)) ∧ ∃ q os', w' = grow (w.drewN q) os' := by
 have HC : Hid _ := fun W => cmp_t x.1 y.1 W
 unfold cmpF; generalize Lib.compareInt x.1 y.1 = r at HC ⊢; go_enter Tryz.func82, Tryz.ntmps82
 go_wp2_with (go_at_call 83; refine Calls.mono (HC.out _) ?_; rintro e w' ⟨rfl, rfl⟩)
 go_ret; exact ⟨rfl, 0, _, by rw [alloc_eq_grow, alloc_eq_grow, grow_grow]; rfl⟩
theorem laysF (g o n : Nat) (w : World) : CmpLays Tryz.prog 82 #[] rv 2 cmpF g o n w := fun _ _ _ _ x y => clos_t x y _
theorem sort_s (B g cap : Nat) (xs : List Rg) (w : World) (h : OwnR w B (.slice (some ⟨g, 0, none⟩) xs.length cap) xs) (hl : xs.length ≤ 1099511627776) :
 Calls Tryz.prog 81 #[.slice (some ⟨g, 0, none⟩) xs.length cap, .func (.func 82) #[] #[]] w fun e w' => e = .returned (.tuple #[]) ∧ ∃ ys : List Rg, ys.Perm xs ∧ ys.Pairwise (fun x y => x.1 ≤ y.1) ∧ OwnR w' B (.slice (some ⟨g, 0, none⟩) xs.length cap) ys ∧ w.grownBy w' (some g) := by
 rcases h.2 with ⟨h0, _⟩ | ⟨g', cap', cur, hv, hB, hg, hn, hm, hs, ht⟩
 · cases h0
 · simp only [Value.slice.injEq, Option.some.injEq, Addr.mk.injEq] at hv; obtain ⟨⟨rfl, -⟩, -, rfl⟩ := hv; have eg : ∀ args w, (callFunc 82 args).run Tryz.prog w = .ok (.enter 82 args) w := enters_of Tryz.func82 (by kernel_rfl) rfl; have hcon := AnyQ.slices_SortFunc Tryz.sortR 2 Tryz.isAgg108 Tryz.sizeOf108 rv (fun _ => rfl) (fun x v hv => by simp at hv; rcases hv with rfl | rfl <;> rfl) cmpF swoF 82 #[] g 0 cap xs.toArray w eg (laysF g 0 _ w) (holdsR hg ht) (sI hg).1 (by simp; omega)
   change Calls Tryz.prog 81 #[.slice (some ⟨g, 0, none⟩) xs.length cap, _] w _ at hcon
   refine hcon.mono ?_; rintro e w' ⟨rfl, d', n, os, hp, hso, rfl⟩; have hpp : d'.toList.Perm xs := by simpa using perm_of_in hp
   refine ⟨rfl, d'.toList, hpp, pair_of_sorted (by rw [hp.1]) hso, ?_, grown_sortR _⟩; have e9 : d' = d'.toList.toArray := by simp
   rw [e9]; simp only [List.toList_toArray]; exact ownR_sorted (hpp.length_eq) hB hg hn hm hs
end
open Go.RowKit Go.Shelf Go.Sort
theorem ownR_made0 (w : World) : OwnR (w.alloc (.cells #[] 108 (0, 0))) w.heap.size (.slice (some ⟨w.heap.size, 0, none⟩) 0 0) [] := World.ownsRow_made w #[] 0 (Nat.le_refl _) (Nat.zero_le _) rfl
section
set_option maxRecDepth 20000
set_option maxHeartbeats 1600000
theorem clone_t (ao : Option Addr) (n cap : Nat) (xs : List Rg) (w : World) (hn : n = xs.length) (hx : RdR w ao xs) (ha : ao = none → cap = 0) (hl : n ≤ 1099511627776) :
 Calls Tryz.prog 80 #[.slice ao n cap] w fun e w' => ∃ v, e = .returned v ∧ OwnR w' w.heap.size v xs ∧ Below w.heap.size w w' := by
 have q22 : ∀ (w : World) (a : Option Addr) (n c n' c' : Nat), (binOp .eql 47 (.slice a n c) (.slice none n' c')).run Tryz.prog w = .ok (.bool a.isNone) w := fun w a n c n' c' => Lib.run_eql_slice_nil w _ _ a n c n' c' Tryz.underlying47
 have HN : Hid _ := hn; clear hn; rcases ao with _ | a
 · obtain rfl := ha rfl
   have h0 : xs = [] := by
    rcases xs with _ | ⟨y, ys⟩
    · rfl
    · obtain ⟨b, o, h1, _⟩ := hx 0 (by simp); cases h1
   subst h0; clear ha; go_enter Tryz.func80, Tryz.ntmps80
   go_wp2; go_ret; exact ⟨_, rfl, World.ownsRow_nil _ _ _ _, bR _ _⟩
 · clear ha; go_enter Tryz.func80, Tryz.ntmps80
   go_wp2_with (at_builtin; refine wp_appR rfl _ _ rfl w.heap.size _ [] xs n _ cap HN.out rfl (ownR_made0 w) rfl (hx.below (al (bR _ _) _)) (fun h => by cases h) (by simpa using hl) (by simp) ?_; intro v2 w2 hown2 hg2)
   go_ret; refine ⟨_, rfl, hown2, ?_⟩; exact (al (Below.refl _ w) _).grown hg2 (by simp) (fun k hk => (World.ownsRow.lt (ownR_made0 w) k hk).1)
theorem sort_t (B : Nat) (v : Value) (xs : List Rg) (w : World) (h : OwnR w B v xs) (hl : xs.length ≤ 1099511627776) :
 Calls Tryz.prog 81 #[v, .func (.func 82) #[] #[]] w fun e w' => e = .returned (.tuple #[]) ∧ ∃ ys : List Rg, ys.Perm xs ∧ ys.Pairwise (fun x y => x.1 ≤ y.1) ∧ OwnR w' B v ys ∧ w.grownBy w' v.ownBlock := by
 rcases h.2 with ⟨rfl, h0⟩ | ⟨g, cap, cur, rfl, r⟩
 · obtain rfl : xs = [] := List.eq_nil_of_length_eq_zero h0; refine (AnyF.slices_SortFunc_none Tryz.sortR none 0 (.func (.func 82) #[] #[]) w).mono ?_; rintro e w' ⟨rfl, rfl⟩; exact ⟨rfl, [], .refl _, List.Pairwise.nil, h, World.grownBy.refl _ _⟩
 · exact sort_s B g cap xs w h hl
end
open Go.RowKit Go.Sort
theorem ownR_set {w : World} {B g cap n : Nat} {o : List Rg} {y : Rg} (hn : n = o.length + 1) (h : OwnR w B (.slice (some ⟨g, 0, none⟩) n cap) (o ++ [y])) (v : Int) :
 OwnR (w.setCell ⟨g, o.length * 2 + 1, none⟩ (.int .i64 v)) B (.slice (some ⟨g, 0, none⟩) n cap) (o ++ [(y.1, v)]) ∧ w.grownBy (w.setCell ⟨g, o.length * 2 + 1, none⟩ (.int .i64 v)) (some g) := by
 have hl : (o ++ [y]).length = n := by rw [hn]; simp
 unfold OwnR at h; rw [hl] at h; have h1 := World.ownsRow.stored h (o.length * 2 + 1) (.int .i64 v); refine ⟨?_, h1.2⟩; unfold OwnR; rw [show (o ++ [(y.1, v)]).length = n by rw [hn]; simp]; have e := flatR_set (o ++ [y]) o.length (by simp) v
 have e2 : (o ++ [y]).set o.length ((o ++ [y])[o.length].1, v) = o ++ [(y.1, v)] := by
  rw [List.getElem_append_right (Nat.le_refl _), List.set_append_right _ _ (Nat.le_refl _)]; simp
 rw [e2] at e; rw [← e]; exact h1.1
theorem mstep_empty {out : List Rg} {a1 a2 : Int} (h : a2 ≤ a1) : mstep out (a1, a2) = out := if_pos h
theorem mstep_nil {a1 a2 : Int} (h : ¬ a2 ≤ a1) : mstep [] (a1, a2) = [] ++ [(a1, a2)] := by unfold mstep; rw [if_neg h]; rfl
theorem mstep_in {o : List Rg} {y1 y2 a1 a2 : Int} (h : ¬ a2 ≤ a1) (h2 : a1 ≤ y2) : mstep (o ++ [(y1, y2)]) (a1, a2) = o ++ [(y1, max y2 a2)] := by unfold mstep; rw [if_neg h]; simp [h2]
theorem mstep_out {o : List Rg} {y1 y2 a1 a2 : Int} (h : ¬ a2 ≤ a1) (h2 : ¬ a1 ≤ y2) : mstep (o ++ [(y1, y2)]) (a1, a2) = o ++ [(y1, y2)] ++ [(a1, a2)] := by unfold mstep; rw [if_neg h]; simp [h2]
def LRel (n : Nat) (ys : List Rg) (w2 : World) (ov j : Value) (wr : World) : Prop := ∃ (k : Nat) (out : List Rg), k ≤ n ∧ j = .int .i64 (k : Int) ∧ OwnR wr w2.heap.size ov out ∧ MI out (ys.take k) ∧ out.length ≤ k ∧ Below w2.heap.size w2 wr
section
set_option maxRecDepth 20000
set_option maxHeartbeats 3200000
theorem least_t (ao : Option Addr) (n cap : Nat) (xs : List Rg) (w : World) (hn : n = xs.length) (hx : RdR w ao xs) (ha : ao = none → cap = 0) (hl : n ≤ 1099511627776) :
 Calls Tryz.prog 47 #[.slice ao n cap] w fun e w' => LeastOut xs w e w' := by
 have HC : Hid _ := clone_t ao n cap xs w hn hx ha hl; have HN : Hid (n = xs.length) := hn; clear hn hx ha; go_enter Tryz.func47, Tryz.ntmps47
 (go_wp2_with fail); refine Calls.mono HC.out ?_; rintro e w1 ⟨v1, rfl, hown1, hb1⟩; obtain ⟨a, c, hv, -, -, -, -, -⟩ := hown1.val; rw [← HN.out] at hv; subst hv; have HS : Hid _ := sort_t w.heap.size _ xs w1 hown1 (by rw [← HN.out]; exact hl); have HLT : Hid (∀ k, (Value.slice a n c).ownBlock = some k → w.heap.size ≤ k) := fun k hk => (World.ownsRow.lt hown1 k hk).1
 clear hown1 HC; (go_wp2_with fail); refine Calls.mono HS.out ?_; rintro e w2 ⟨rfl, ys, hp, hso, hown2, hg2⟩; have hb2 : Below w.heap.size w w2 := hb1.grown hg2 hb1.size HLT.out; have hyl : n = ys.length := by rw [hp.length_eq]; exact HN.out
 obtain ⟨a', c', hv', -, -, -, hrd, -⟩ := hown2.val; simp only [Value.slice.injEq] at hv'; obtain ⟨rfl, -, rfl⟩ := hv'; have HP : Hid (ys.Perm xs) := hp; have HSO : Hid (ys.Pairwise (fun x y => x.1 ≤ y.1)) := hso; have HB2 : Hid (Below w.heap.size w w2) := hb2; have HY : Hid (n = ys.length) := hyl; clear hp hso hown2 hg2 hb1 HS HLT hb2 hyl; (go_wp2_with fail); go_loopw [4, 14] (fun ov j wr => LRel n ys w2 ov j wr) (fun _ j _ => n - (intOf j).toNat)
 case atStart => exact ⟨0, [], Nat.zero_le _, rfl, OwnR.nil _ _, MI.nil, Nat.le_refl _, bR _ _⟩
 case round =>
  obtain ⟨k, out, hk, rfl, hown, hmi, hol, hbw⟩ := hrel; have hkw : IntKind.i64.wrap ((k : Int) + 1) = ((k + 1 : Nat) : Int) := by rw [IntKind.wrap_i64]; omega
  have HO : Hid (OwnR wr w2.heap.size u4 out) := hown; have HMI : Hid (MI out (ys.take k)) := hmi; have hsz := hbw.size; clear hown hmi
  by_cases hlt : k < n
  · have hk1 : k < ys.length := by rw [← HY.out]; exact hlt
    have hlti : (k : Int) < (n : Int) := by omega
    have hk0 : (0 : Int) ≤ (k : Int) := by omega
    have hxr := hrd.below hbw; obtain ⟨b, o, rfl, -, -⟩ := hxr k hk1; have HRG : Hid _ := hxr.range k hk1; obtain ⟨x, hx9⟩ : ∃ x : Rg, x = ys[k] := ⟨_, rfl⟩; rw [← hx9] at HRG; have HTK : Hid (ys.take (k + 1) = ys.take k ++ [x]) := by unfold Hid; rw [List.take_succ_eq_append_getElem hk1, hx9]
    have HBEF : Hid (∀ z ∈ ys.take k, z.1 ≤ x.1) := fun z hz => by
     obtain ⟨i, hi, e⟩ := List.getElem_of_mem hz; have hi2 : i < k := by simp at hi; omega
     have h9 := List.pairwise_iff_getElem.1 HSO.out i k (by omega) hk1 hi2; rw [hx9, ← e, List.getElem_take]; exact h9
    obtain ⟨a1, a2⟩ := x; have hz := (zero_of_info info_rg).1; have HST : Hid (MI (mstep out (a1, a2)) (ys.take (k + 1))) := by unfold Hid; rw [HTK.out]; exact HMI.out.step HBEF.out
    have HB : Hid (Below w2.heap.size w2 wr) := hbw; have HLE : Hid (out.length ≤ k) := hol; have hol9 : out.length ≤ 1099511627776 := by omega
    clear hx9 hxr hbw hol; obtain ⟨av, cv, hvv, -, -, -, hrdo, hqo⟩ := OwnR.val HO.out; obtain ⟨L, hL⟩ : ∃ L : Nat, L = out.length := ⟨_, rfl⟩; rw [← hL] at hvv; subst hvv; have HL : Hid (L = out.length) := hL; have hLb : L ≤ 1099511627776 := by omega
    clear hL
    by_cases h1 : a2 ≤ a1
    · have HE : Hid _ := mstep_empty (out := out) h1; rw [HE.out] at HST
      go_wp2_with (first
        | (refine wpList_load_mid rfl 108 _ rfl b (o + k * 2) (by rfl) [.int .i64 a1, .int .i64 a2] _ HRG.out Tryz.underlying108 rfl (by rw [(zero_of_info info_rg).2]; rfl) ?_)
        | (go_at_call 84; refine (empty_t _ _ _).mono ?_; rintro e w5 ⟨rfl, hb5⟩))
      go_roundw
      case rel => exact ⟨k + 1, out, by omega, by go_num, OwnR.below (OwnR.below HO.out (al (bR _ _) _)) hb5, HST.out, by have := HLE.out; omega, below_next (al HB.out _) hb5⟩
      case measure => simp [intOf]; omega
    · have h1d : decide (a2 ≤ a1) = false := by simpa using h1
      rcases List.eq_nil_or_concat out with h0 | ⟨o2, y, h0⟩
      · have HE : Hid _ := mstep_nil h1; subst h0; rw [HE.out] at HST; obtain rfl : L = 0 := HL.out; have hneg : decide ((0 : Int) ≤ -1) = false := by decide
        have hneg2 : decide ((-1 : Int) ≥ 0) = false := by decide
        go_wp2_with (first
          | (refine wpList_load_mid rfl 108 _ rfl b (o + k * 2) (by rfl) [.int .i64 a1, .int .i64 a2] _ HRG.out Tryz.underlying108 rfl (by rw [(zero_of_info info_rg).2]; rfl) ?_)
          | (go_at_call 84; refine (empty_t _ _ _).mono ?_; rintro e w5 ⟨rfl, hb5⟩; have HBX : Hid (∀ u, Below w5.heap.size w5 u → u.rangeAt wr.heap.size 0 [.int .i64 a1, .int .i64 a2]) := (fun u hu => ((rd_lit1 wr (a1, a2)).below (below_next hb5 hu)).range 0 (Nat.zero_lt_succ _)); have hs5 := hb5.size; have HO5 : Hid (∀ u, Below w5.heap.size w5 u → OwnR u w2.heap.size (.slice av 0 cv) []) := (fun u hu => OwnR.below (OwnR.below (OwnR.below HO.out (al (bR _ _) _)) hb5) hu); have HB5 : Hid (Below w2.heap.size w2 w5) := below_next (al HB.out _) hb5))
        refine wp_region_noPanic ?_; refine wp_region_held_drew (S := (fun u => Below w5.heap.size w5 u)) (by kernel_rfl) (by first | exact (bR _ _).drew | assumption) (fun hHeld => ?_); refine tz 0 29 hHeld ?_; simp only [pS]; refine tz 1 30 hHeld ?_; simp only [pS]; refine tz 2 31 hHeld ?_; simp only [pS]; refine qS 3 32 hHeld ?_; simp only [pS]; refine qS 4 33 hHeld ?_; simp only [pS]; refine qS 5 34 hHeld ?_; simp only [pS]; refine qS 6 35 hHeld ?_; simp only [pS]; refine qS 7 36 hHeld ?_; simp only [pS]; refine qS 8 37 hHeld ?_; simp only [pS]; refine qS 9 38 hHeld ?_; simp only [pS]; refine qS 10 39 hHeld ?_; simp only [pS]; refine tz 11 40 hHeld ?_; simp only [pS]; refine tz 12 28 hHeld ?_; simp only [pS]; refine wpAnyH_done (by kernel_rfl) ?_ _; refine NoPanic.normal ?_
        go_wp2_with (first
          | (refine wpList_load_mid rfl 108 _ rfl wr.heap.size 0 (by rfl) [.int .i64 a1, .int .i64 a2] _ (HBX.out _ (bR _ _).drew) Tryz.underlying108 rfl (by rw [(zero_of_info info_rg).2]; rfl) ?_)
          | (at_builtin; refine wp_appR1 rfl _ _ rfl w2.heap.size _ [] 0 rfl (a1, a2) w5.heap.size rfl (HO5.out _ (al (bR _ _).drew _)) rfl (heap_alloc_new w5.drew _) hol9 (by simp at hs5 ⊢; omega) ?_; intro g3 c3 w3 hown3 hg3 hlies3; have HB3 : Hid (Below w2.heap.size w2 w3) := (al HB5.out.drew _).grown hg3 (by simp at hs5 ⊢; omega) (fun k hk => (World.ownsRow.lt HO.out k hk).1)))
        go_roundw
        case rel => exact ⟨k + 1, [] ++ [(a1, a2)], by omega, by go_num, hown3, HST.out, by simp, HB3.out⟩
        case measure => simp [intOf]; omega
      · rw [List.concat_eq_append] at h0; subst h0; obtain ⟨y1, y2⟩ := y; obtain ⟨m, hm⟩ : ∃ m : Nat, m = o2.length := ⟨_, rfl⟩; have HM : Hid (m = o2.length) := hm; have hLm : L = m + 1 := by rw [HL.out, hm]; simp
        have hlw : IntKind.i64.wrap ((L : Int) - 1) = (m : Int) := by rw [IntKind.wrap_i64]; omega
        have hmi : (m : Int) < (L : Int) := by omega
        have hm0 : (0 : Int) ≤ (m : Int) := by omega
        have hmg : decide ((0 : Int) ≤ (m : Int)) = true := by simp
        obtain ⟨gq, oq, rfl, -⟩ := hrdo.addr (by simp); obtain rfl : oq = 0 := (hqo _ rfl).1
        have HCY : Hid (∀ u, Below wr.heap.size wr u → u.cell? ⟨gq, m * 2 + 1, none⟩ = some (.int .i64 y2)) := fun u hu => by
         obtain ⟨b', o', e9, -, h9⟩ := (hrdo.below hu) m (by simp; omega); cases e9; rw [Nat.zero_add] at h9; rw [h9]; subst hm; simp
        have HLM : Hid (L = m + 1) := hLm; clear hm hLm hrdo hqo
        by_cases h2 : a1 ≤ y2
        · have HE : Hid _ := mstep_in (o := o2) (y1 := y1) h1 h2; rw [HE.out] at HST; have h2d : decide (a1 ≤ y2) = true := by simpa using h2
          go_wp2_with (first
            | (refine wpList_load_mid rfl 108 _ rfl b (o + k * 2) (by rfl) [.int .i64 a1, .int .i64 a2] _ HRG.out Tryz.underlying108 rfl (by rw [(zero_of_info info_rg).2]; rfl) ?_)
            | (go_at_call 84; refine (empty_t _ _ _).mono ?_; rintro e w5 ⟨rfl, hb5⟩; have HBX : Hid (∀ u, Below w5.heap.size w5 u → u.rangeAt wr.heap.size 0 [.int .i64 a1, .int .i64 a2]) := (fun u hu => ((rd_lit1 wr (a1, a2)).below (below_next hb5 hu)).range 0 (Nat.zero_lt_succ _)); have hs5 := hb5.size; have HO5 : Hid (∀ u, Below w5.heap.size w5 u → OwnR u w2.heap.size (.slice (some ⟨gq, 0, none⟩) L cv) (o2 ++ [(y1, y2)])) := (fun u hu => OwnR.below (OwnR.below (OwnR.below HO.out (al (bR _ _) _)) hb5) hu); have HB5 : Hid (Below w2.heap.size w2 w5) := below_next (al HB.out _) hb5))
          have hcy : ∀ u, Below w5.heap.size w5 u → u.cell? ⟨gq, m * 2 + 1, none⟩ = some (.int .i64 y2) := fun u hu => HCY.out u (below_next (below_next (al (bR _ _) _) hb5) hu)
          have hbc : ∀ u, Below w5.heap.size w5 u → u.cell? ⟨wr.heap.size, 0, none⟩ = some (.int .i64 a1) := fun u hu => HBX.out u hu 0 _ rfl
          refine wp_region_noPanic ?_; refine wp_region_held_drew (S := (fun u => Below w5.heap.size w5 u)) (by kernel_rfl) (by first | exact (bR _ _).drew | assumption) (fun hHeld => ?_); refine tz 0 29 hHeld ?_; simp only [pS]; refine tz 1 30 hHeld ?_; simp only [pS]; refine tz 2 31 hHeld ?_; simp only [pS]; refine tz 3 32 hHeld ?_; simp only [pS]; refine tz 4 33 hHeld ?_; simp only [pS]; refine tz 5 34 hHeld ?_; simp only [pS]; refine tz 6 35 hHeld ?_; simp only [pS]; refine tz 7 36 hHeld ?_; simp only [pS]; refine tz 8 37 hHeld ?_; simp only [pS]; refine tz 9 38 hHeld ?_; simp only [pS]; refine tz 10 39 hHeld ?_; simp only [pS]; refine tz 11 40 hHeld ?_; simp only [pS]; refine tz 12 28 hHeld ?_; simp only [pS]; refine wpAnyH_done (by kernel_rfl) ?_ _; refine NoPanic.normal ?_; have hbd : w5.drew.drew.cell? ⟨wr.heap.size, 1, none⟩ = some (.int .i64 a2) := HBX.out _ (bR _ _).drew.drew 1 _ rfl; have hcd : w5.drew.drew.cell? ⟨gq, m * 2 + 1, none⟩ = some (.int .i64 y2) := hcy _ (bR _ _).drew.drew
          have hne : (⟨gq, m * 2 + 1, none⟩ : Addr).block ≠ (⟨wr.heap.size, 1, none⟩ : Addr).block := by
           have := World.block_lt_of_cell? wr _ (HCY.out wr (bR _ _)); simp only at this ⊢; omega
          have hfz : w5.drew.drew.frozen? ⟨gq, m * 2 + 1, none⟩ = false := ownR_cold (HO5.out _ (bR _ _).drew.drew) _; have HWR : Hid _ := ownR_set (n := L) (by rw [HLM.out, HM.out]) (HO5.out _ (bR _ _)) (max y2 a2); rw [← HM.out] at HWR; (go_wp2_with fail); refine wp_region_noPanic ?_; refine wp_region_held_drew (S := (fun u => u.cell? ⟨wr.heap.size, 1, none⟩ = some (.int .i64 a2))) (by kernel_rfl) (by first | exact hbd | exact (World.cell?_setCell_far _ _ _ _ hne).trans hbd) (fun hHeld => ?_); refine tz 0 41 hHeld ?_; simp only [pS]; refine tz 1 42 hHeld ?_; simp only [pS]; refine tz 2 43 hHeld ?_; simp only [pS]; refine tz 3 44 hHeld ?_; simp only [pS]; refine tz 4 45 hHeld ?_; simp only [pS]; refine tz 5 46 hHeld ?_; simp only [pS]; refine tz 7 48 hHeld ?_; simp only [pS]; refine tz 8 49 hHeld ?_; simp only [pS]; refine val_at (i := 6) 47 (v := ?_) rfl rfl (by kernel_rfl) (by rfl) ?_ ?_ ?_; rotate_left
          · (go_simp; try with_reducible rfl)
          · (first | exact hbd | exact (World.cell?_setCell_far _ _ _ _ hne).trans hbd)
          clear hHeld; intro hHeld; simp only [pS]; refine tz 9 50 hHeld ?_; simp only [pS]; refine tz 10 51 hHeld ?_; simp only [pS]; refine tz 11 52 hHeld ?_; simp only [pS]; refine run_at (i := 12) rfl (by kernel_rfl) (by rfl) (fun K hK => ?_); simp only [gE]; go_simp; (go_wp2_with fail); refine hK.out _ _ (by first | exact hbd | exact (World.cell?_setCell_far _ _ _ _ hne).trans hbd) ?_; clear hK K; clear hHeld; intro hHeld; (try simp only [pS]); refine wpAnyH_done (by kernel_rfl) ?_ _; refine NoPanic.normal ?_; go_wp2; go_roundw
          case rel => exact ⟨k + 1, _, by omega, by go_num, OwnR.below HWR.out.1 (bR _ _).drew.drew, HST.out, (by have := HLE.out; simp only [List.length_append, List.length_cons, List.length_nil] at this ⊢; omega), (HB5.out.grown HWR.out.2 (by simp at hs5 ⊢; omega) (fun k hk => (World.ownsRow.lt HO.out k hk).1)).drew.drew⟩
          case measure => simp [intOf]; omega
        · have HE : Hid _ := mstep_out (o := o2) (y1 := y1) h1 h2; rw [HE.out] at HST; have h2d : decide (a1 ≤ y2) = false := by simpa using h2
          go_wp2_with (first
            | (refine wpList_load_mid rfl 108 _ rfl b (o + k * 2) (by rfl) [.int .i64 a1, .int .i64 a2] _ HRG.out Tryz.underlying108 rfl (by rw [(zero_of_info info_rg).2]; rfl) ?_)
            | (go_at_call 84; refine (empty_t _ _ _).mono ?_; rintro e w5 ⟨rfl, hb5⟩; have HBX : Hid (∀ u, Below w5.heap.size w5 u → u.rangeAt wr.heap.size 0 [.int .i64 a1, .int .i64 a2]) := (fun u hu => ((rd_lit1 wr (a1, a2)).below (below_next hb5 hu)).range 0 (Nat.zero_lt_succ _)); have hs5 := hb5.size; have HO5 : Hid (∀ u, Below w5.heap.size w5 u → OwnR u w2.heap.size (.slice (some ⟨gq, 0, none⟩) L cv) (o2 ++ [(y1, y2)])) := (fun u hu => OwnR.below (OwnR.below (OwnR.below HO.out (al (bR _ _) _)) hb5) hu); have HB5 : Hid (Below w2.heap.size w2 w5) := below_next (al HB.out _) hb5))
          have hcy : ∀ u, Below w5.heap.size w5 u → u.cell? ⟨gq, m * 2 + 1, none⟩ = some (.int .i64 y2) := fun u hu => HCY.out u (below_next (below_next (al (bR _ _) _) hb5) hu)
          have hbc : ∀ u, Below w5.heap.size w5 u → u.cell? ⟨wr.heap.size, 0, none⟩ = some (.int .i64 a1) := fun u hu => HBX.out u hu 0 _ rfl
          refine wp_region_noPanic ?_; refine wp_region_held_drew (S := (fun u => Below w5.heap.size w5 u)) (by kernel_rfl) (by first | exact (bR _ _).drew | assumption) (fun hHeld => ?_); refine tz 0 29 hHeld ?_; simp only [pS]; refine tz 1 30 hHeld ?_; simp only [pS]; refine tz 2 31 hHeld ?_; simp only [pS]; refine tz 3 32 hHeld ?_; simp only [pS]; refine tz 4 33 hHeld ?_; simp only [pS]; refine tz 5 34 hHeld ?_; simp only [pS]; refine tz 6 35 hHeld ?_; simp only [pS]; refine tz 7 36 hHeld ?_; simp only [pS]; refine tz 8 37 hHeld ?_; simp only [pS]; refine tz 9 38 hHeld ?_; simp only [pS]; refine tz 10 39 hHeld ?_; simp only [pS]; refine tz 11 40 hHeld ?_; simp only [pS]; refine tz 12 28 hHeld ?_; simp only [pS]; refine wpAnyH_done (by kernel_rfl) ?_ _; refine NoPanic.normal ?_
          go_wp2_with (first
            | (refine wpList_load_mid rfl 108 _ rfl wr.heap.size 0 (by rfl) [.int .i64 a1, .int .i64 a2] _ (HBX.out _ (bR _ _).drew) Tryz.underlying108 rfl (by rw [(zero_of_info info_rg).2]; rfl) ?_)
            | (at_builtin; refine wp_appR1 rfl _ _ rfl w2.heap.size _ (o2 ++ [(y1, y2)]) L HL.out (a1, a2) w5.heap.size rfl (HO5.out _ (al (bR _ _).drew _)) rfl (heap_alloc_new w5.drew _) hLb (by simp at hs5 ⊢; omega) ?_; intro g3 c3 w3 hown3 hg3 hlies3; have HB3 : Hid (Below w2.heap.size w2 w3) := (al HB5.out.drew _).grown hg3 (by simp at hs5 ⊢; omega) (fun k hk => (World.ownsRow.lt HO.out k hk).1)))
          go_roundw
          case rel => exact ⟨k + 1, o2 ++ [(y1, y2)] ++ [(a1, a2)], by omega, by go_num, hown3, HST.out, by have := HLE.out; simp only [List.length_append, List.length_cons, List.length_nil] at this ⊢; omega, HB3.out⟩
          case measure => simp [intOf]; omega
  · have hlti : ¬ (k : Int) < (n : Int) := by omega
    have HF : Hid (MI out ys) := by
     have h9 := HMI.out; rw [List.take_of_length_le (by rw [← HY.out]; omega)] at h9; exact h9
    go_wp2; go_ret; exact ⟨_, out, rfl, OwnR.base HO.out HB2.out.size, HF.out.lst, fun i => by rw [HF.out.has i, hasR_perm HP.out i], by have := HN.out; omega, below_next HB2.out hbw⟩
end
open Go.RowKit
set_option maxRecDepth 20000 in
set_option maxHeartbeats 1600000 in
theorem growR_nil (n : Nat) (w : World) (hn : n ≤ 1099511627776) :
 Calls Tryz.prog 116 #[.slice none 0 0, .int .i64 n] w fun e w' => ∃ v, e = .returned v ∧ OwnR w' w.heap.size v [] ∧ Below w.heap.size w w' := by
 obtain ⟨i0, hi, hz0, hz1, hz2⟩ := info_parts infoR
 by_cases h0 : n = 0
 · subst h0; go_enter Tryz.func116, Tryz.ntmps116
   go_wp2; go_ret; exact ⟨_, rfl, World.ownsRow_nil _ _ _ _, bR _ _⟩
 · have hpos : (0 : Int) < n := by omega
   have hap := fun (u : World) (ty : TypeId) => Go.Lib.run_append_nil_zeros (P := Tryz.prog) u 47 3 ty 108 i0 (.agg #[.int .i64 0, .int .i64 0]) .i64 .i64 Tryz.underlying47 Tryz.underlying3 hi hz0 n (by omega) (by omega) (by omega) (by rw [hz2]; omega)
   have HAP : Hid _ := hap; clear hap; go_enter Tryz.func116, Tryz.ntmps116
   go_wp2_with (at_builtin; refine Go.Lib.wpList_append_run _ rfl _ _ _ _ rfl _ _ rfl rfl _ _ (HAP.out _ _) ?_)
   go_ret; refine ⟨_, rfl, World.ownsRow.drew (World.ownsRow_made w _ _ (Nat.le_refl _) (grownCap_le_maxLen w n 0 108 (by simp only [maxLen]; omega)) ?_), ((bR _ _).alloc (Nat.le_refl _) _).drew⟩; have := grownCap_ge w n 0 108; simp [size_zeroCells, Value.cells]; omega
structure PartR where
 ao : Option Addr
 cap : Nat
 xs : List Rg
def PartR.v (p : PartR) : Value := .slice p.ao p.xs.length p.cap
def PartR.ok (w : World) (p : PartR) : Prop := RdR w p.ao p.xs ∧ (p.ao = none → p.cap = 0)
def catR (ps : List PartR) : List Rg := ps.flatMap (·.xs)
theorem catR_snoc (ps : List PartR) (k : Nat) (h : k < ps.length) : catR (ps.take (k + 1)) = catR (ps.take k) ++ ps[k].xs := by
 unfold catR; rw [List.take_succ_eq_append_getElem h, List.flatMap_append]; simp
theorem catR_le (ps : List PartR) (k : Nat) : (catR (ps.take k)).length ≤ (catR ps).length := by
 have h : catR ps = catR (ps.take k) ++ catR (ps.drop k) := by
  conv => lhs; rw [← List.take_append_drop k ps]
  unfold catR; rw [List.flatMap_append]
 rw [h, List.length_append]; omega
set_option maxRecDepth 20000 in
set_option maxHeartbeats 400000 in
theorem concat_t (b o c : Nat) (ps : List PartR) (w : World) (hn : ps.length ≤ 1000) (hp : ∀ j (h : j < ps.length), w.cell? ⟨b, o + j, none⟩ = some ps[j].v ∧ ps[j].ok w) (hb : (catR ps).length ≤ 1099511627776) :
 Calls Tryz.prog 85 #[.slice (some ⟨b, o, none⟩) ps.length c] w fun e w' => ∃ v, e = .returned v ∧ OwnR w' w.heap.size v (catR ps) ∧ Below w.heap.size w w' := by
 go_enter Tryz.func85, Tryz.ntmps85
 go_wp2; go_loop [3, 11] (fun s i => ∃ k : Nat, k ≤ ps.length ∧ i = .int .i64 k ∧ s = .int .i64 ((catR (ps.take k)).length : Nat)) (fun _ i => ps.length - (intOf i).toNat)
 case atStart => exact ⟨0, Nat.zero_le _, rfl, rfl⟩
 case round =>
  obtain ⟨k, hk, rfl, rfl⟩ := hrel; have hcl := catR_le ps k
  by_cases hlt : k < ps.length
  · have hc1 := (hp k hlt).1; unfold PartR.v at hc1; have hcl1 := catR_le ps (k + 1); have HS : Hid ((catR (ps.take (k + 1))).length = (catR (ps.take k)).length + ps[k].xs.length) := by unfold Hid; rw [catR_snoc ps k hlt, List.length_append]
    have hcl2 : (catR (ps.take k)).length + ps[k].xs.length ≤ 1099511627776 := by have := HS.out; omega
    clear hp hcl1; go_wp2; go_round
    case rel => exact ⟨k + 1, by omega, by go_num, by rw [HS.out]; go_num⟩
    case measure => simp [intOf]; omega
  · obtain rfl : k = ps.length := by omega
    rw [List.take_length]; clear hcl; (go_wp2_with fail); refine (growR_nil _ _ hb).mono ?_; rintro e w1 ⟨v0, rfl, hown0, hb0⟩; go_wp2; go_loopw [6, 27] (fun v i wr => ∃ k : Nat, k ≤ ps.length ∧ i = .int .i64 k ∧ OwnR wr w.heap.size v (catR (ps.take k)) ∧ Below w.heap.size w wr) (fun _ i _ => ps.length - (intOf i).toNat)
    case atStart => exact ⟨0, Nat.zero_le _, rfl, hown0, hb0⟩
    case round =>
     obtain ⟨k, hk, rfl, hown, hbel⟩ := hrel
     by_cases hlt : k < ps.length
     · obtain ⟨hc1, hr1, hn1⟩ := hp k hlt; unfold PartR.v at hc1; have hc2 := (hbel.cell (World.block_lt_of_cell? w _ hc1)).trans hc1; have hr2 := hr1.below hbel; have hsz := hbel.size; have HS : Hid (catR (ps.take (k + 1)) = catR (ps.take k) ++ ps[k].xs) := catR_snoc ps k hlt
       have hle : (catR (ps.take k)).length + ps[k].xs.length ≤ 1099511627776 := by
        have h1 := catR_le ps (k + 1); rw [HS.out, List.length_append] at h1; omega
       have HR : Hid _ := hr2; have HN : Hid _ := hn1; clear hp hc1 hr1 hr2 hn1 hown0 hb0; go_wp2_with (at_builtin; refine wp_appR rfl _ _ rfl _ _ _ _ _ _ _ rfl rfl hown rfl HR.out HN.out hle hsz ?_; intro v2 w2 hown2 hg2)
       go_roundw
       case rel => exact ⟨k + 1, by omega, by go_num, by rw [HS.out]; exact hown2, hbel.grown hg2 hsz (fun j hj => (World.ownsRow.lt hown j hj).1)⟩
       case measure => simp [intOf]; omega
     · obtain rfl : k = ps.length := by omega
       rw [List.take_length] at hown; go_wp2; go_ret; exact ⟨_, rfl, hown, hbel⟩
section
set_option maxRecDepth 20000
set_option maxHeartbeats 1600000
theorem union_t (ao bo : Option Addr) (n m c1 c2 : Nat) (xs ys : List Rg) (w : World) (hn : n = xs.length) (hm : m = ys.length) (hx : RdR w ao xs) (hy : RdR w bo ys) (hl : n + m ≤ 1099511627776) (ha : ao = none → c1 = 0) (hb : bo = none → c2 = 0) :
 Calls Tryz.prog 48 #[.slice ao n c1, .slice bo m c2] w fun e w' => LeastOut (xs ++ ys) w e w' := by
 have hcat : catR [⟨ao, c1, xs⟩, ⟨bo, c2, ys⟩] = xs ++ ys := by simp [catR]
 have HC : Hid _ := concat_t w.heap.size 0 2 [⟨ao, c1, xs⟩, ⟨bo, c2, ys⟩] (w.alloc (.cells #[.slice ao xs.length c1, .slice bo ys.length c2] 47 (0, 0))) (by simp) (fun j hj => by
   match j, hj with
   | 0, _ => exact ⟨by rw [cR (heap_alloc_new w _)]; rfl, hx.below (al (bR _ _) _), ha⟩
   | 1, _ => exact ⟨by rw [cR (heap_alloc_new w _)]; rfl, hy.below (al (bR _ _) _), hb⟩) (by rw [hcat, List.length_append]; omega)
 rw [hcat, ← hn, ← hm] at HC; have hl2 : (xs ++ ys).length ≤ 1099511627776 := by rw [List.length_append]; omega
 have HL2 : Hid _ := hl2; clear hn hm hcat hl2; go_enter Tryz.func48, Tryz.ntmps48
 (go_wp2_with fail); refine Calls.mono HC.out ?_; rintro e w1 ⟨v1, rfl, hown1, hb1⟩; have hb1' : Below w.heap.size w w1 := below_next (al (bR _ _) _) hb1; obtain ⟨a, c, hv, -, -, hc3, hrd, -⟩ := hown1.val; obtain ⟨L, hL⟩ : ∃ L : Nat, L = (xs ++ ys).length := ⟨_, rfl⟩; rw [← hL] at hv; subst hv; have HR : Hid _ := least_t a L c (xs ++ ys) w1 hL hrd hc3 (by rw [hL]; exact HL2.out); have HB1 : Hid (Below w.heap.size w w1) := hb1'; clear hown1 hb1 hb1' hc3 hrd hL HC; (go_wp2_with fail); refine Calls.mono HR.out ?_; rintro e w3 ⟨v3, out, rfl, h1, h2, h3, h4, h5⟩; go_wp2; go_ret; exact LeastOut.base ⟨v3, out, rfl, h1, h2, h3, h4, h5⟩ HB1.out
end
open Go.RowKit
def MRel (L : Nat) (ls : List Rg) (m : Int) (w3 : World) (ov av j : Value) (wr : World) : Prop := ∃ (k : Nat) (o : List Rg) (q : Int), k ≤ L + 1 ∧ j = .int .i64 (k : Int) ∧ av = .int .i64 q ∧ OwnR wr w3.heap.size ov o ∧ o.length ≤ k ∧ Below w3.heap.size w3 wr ∧ ((k ≤ L ∧ PI (ls.take k) o m q) ∨ (k = L + 1 ∧ MissS ls o m))
theorem heap_alloc_size1 (w : World) (o : Obj) : (w.alloc o).heap.size = w.heap.size + 1 := by simp
section
set_option maxRecDepth 20000
set_option maxHeartbeats 1600000
theorem missing_t (ao : Option Addr) (n cap : Nat) (xs : List Rg) (m : Int) (w : World) (hn : n = xs.length) (hx : RdR w ao xs) (ha : ao = none → cap = 0) (hl : n ≤ 1000000000000) :
 Calls Tryz.prog 63 #[.slice ao n cap, .int .i64 m] w fun e w' => MissOut xs m w e w' := by
 have HR : Hid _ := least_t ao n cap xs w hn hx ha (by omega); have HN : Hid (n = xs.length) := hn; clear hn; go_enter Tryz.func63, Tryz.ntmps63
 (go_wp2_with fail); refine Calls.mono HR.out ?_; rintro e w1 ⟨v1, ls, rfl, hown, h2, h3, h4, h5⟩; obtain ⟨L, hL⟩ : ∃ L : Nat, L = ls.length := ⟨_, rfl⟩; have HL : Hid (L = ls.length) := hL; have HO : Hid (OwnR w1 w.heap.size v1 ls) := hown; have HLS : Hid (Lst ls ∧ (∀ i, hasR ls i ↔ hasR xs i) ∧ Below w.heap.size w w1) := ⟨h2, h3, h5⟩; have hLL : L ≤ 1000000000000 := by have := HN.out; omega
 have hLX : L ≤ xs.length := by omega
 have hs1 := h5.size; clear hown h2 h3 h4 h5 HR; obtain ⟨a, c, hv, -, -, -, -, -⟩ := OwnR.val HO.out; rw [← hL] at hv; subst hv; clear hL; go_wp2_with (at_builtin; refine wp_appR1 rfl _ _ rfl w.heap.size _ ls L HL.out (m, m) w1.heap.size rfl (OwnR.below HO.out (al (bR _ _) _)) rfl (heap_alloc_new w1 _) (by omega) (by simp; omega) ?_; intro g3 c3 w3 hown3 hg3 hlies3; have HB3 : Hid (Below w.heap.size w w3) := (al HLS.out.2.2 _).grown hg3 (by simp; omega) (fun k hk => (World.ownsRow.lt HO.out k hk).1); have HRD : Hid (RdR w3 (some ⟨g3, 0, none⟩) (ls ++ [(m, m)])) := (by obtain ⟨a9, c9, hv9, -, -, -, hrd9, -⟩ := OwnR.val hown3; simp only [Value.slice.injEq] at hv9; obtain ⟨rfl, -, rfl⟩ := hv9; exact hrd9); clear hown3 hg3 hlies3)
 go_loopw [5, 6, 18] (fun ov av j wr => MRel L ls m w3 ov av j wr) (fun _ _ j _ => L + 1 - (intOf j).toNat)
 case atStart => exact ⟨0, [], 0, Nat.zero_le _, rfl, rfl, OwnR.nil _ _, Nat.le_refl _, bR _ _, .inl ⟨Nat.zero_le _, PI.start m⟩⟩
 case round =>
  obtain ⟨k, o, q, hk, rfl, rfl, hown, hol, hbw, hst⟩ := hrel; have hkw : IntKind.i64.wrap ((k : Int) + 1) = ((k + 1 : Nat) : Int) := by rw [IntKind.wrap_i64]; omega
  have HO4 : Hid (OwnR wr w3.heap.size u5 o) := hown; have HST : Hid ((k ≤ L ∧ PI (ls.take k) o m q) ∨ (k = L + 1 ∧ MissS ls o m)) := hst; have HOL : Hid (o.length ≤ k) := hol; have HBW : Hid (Below w3.heap.size w3 wr) := hbw; have hsw := hbw.size; have hol9 : o.length ≤ 1099511627776 := by omega
  clear hown hst hol
  by_cases hlt : k < L + 1
  · have hk1 : k < (ls ++ [(m, m)]).length := by rw [List.length_append, ← HL.out]; exact hlt
    have hlti : (k : Int) < (L : Int) + 1 := by omega
    have hk0 : (0 : Int) ≤ (k : Int) := by omega
    have HRG : Hid _ := (RdR.below HRD.out hbw).range k hk1; obtain ⟨x, hx9⟩ : ∃ x : Rg, x = (ls ++ [(m, m)])[k] := ⟨_, rfl⟩; rw [← hx9, Nat.zero_add] at HRG
    have HNX : Hid ((k + 1 ≤ L ∧ PI (ls.take (k + 1)) (gapped o q (min x.1 m)) m (max q x.2)) ∨ (k + 1 = L + 1 ∧ MissS ls (gapped o q (min x.1 m)) m)) := by
     rcases HST.out with ⟨h1, h2⟩ | ⟨h1, -⟩
     · by_cases h3 : k < L
       · have h4 : k < ls.length := by rw [← HL.out]; exact h3
         have h5 : x = ls[k] := by rw [hx9, List.getElem_append_left h4]
         refine .inl ⟨by omega, ?_⟩; rw [List.take_succ_eq_append_getElem h4, ← h5]; refine h2.step (by rw [h5]; exact HLS.out.1.pos _ (List.getElem_mem h4)) (fun z hz => ?_); obtain ⟨i, hi, e⟩ := List.getElem_of_mem hz; have hi2 : i < k := by simp at hi; omega
         have h9 := List.pairwise_iff_getElem.1 HLS.out.1.gap i k (by omega) h4 hi2; rw [h5, ← e, List.getElem_take]; exact h9
       · have h4 : k = ls.length := by have := HL.out; omega
         have h5 : x = (m, m) := by rw [hx9, List.getElem_append_right (by omega)]; simp
         refine .inr ⟨by omega, ?_⟩; rw [List.take_of_length_le (by omega)] at h2; rw [h5, show min (m, m).1 m = m by simp]; exact h2.last
     · omega
    obtain ⟨a1, a2⟩ := x; have hz := (zero_of_info info_rg).1; simp only at HNX; clear hx9 hbw HST
    by_cases hg : q < min a1 m
    · have hgd : decide (min a1 m ≤ q) = false := by simp; omega
      rw [gapped_yes hg] at HNX
      go_wp2_with (first
        | (refine wpList_load_mid rfl 108 _ rfl g3 (k * 2) (by rfl) [.int .i64 a1, .int .i64 a2] _ HRG.out Tryz.underlying108 rfl (by rw [(zero_of_info info_rg).2]; rfl) ?_)
        | (go_at_call 84; refine (empty_t _ _ _).mono ?_; rintro e w5 ⟨rfl, hb5⟩; have hb5w : Below wr.heap.size wr w5 := below_next (al (al (bR _ _) _) _) hb5; have hs5 := hb5.size; have HX1 : Hid (w5.cell? ⟨wr.heap.size, 1, none⟩ = some (.int .i64 a2)) := (((rd_lit1 wr (a1, a2)).below (below_next (al (bR _ _) _) hb5)).range 0 (Nat.zero_lt_succ _)) 1 _ rfl; have HX2 : Hid (w5.rangeAt (wr.heap.size + 1) 0 [.int .i64 q, .int .i64 (min a1 m)]) := (by have h9 := ((rd_lit1 (wr.alloc (.cells #[.int .i64 a1, .int .i64 a2] 108 (0, 0))) (q, min a1 m)).below hb5); rw [heap_alloc_size1] at h9; exact h9.range 0 (Nat.zero_lt_succ _)); have HO5 : Hid (OwnR w5 w3.heap.size u5 o) := OwnR.below HO4.out hb5w; have HB5 : Hid (Below w3.heap.size w3 w5) := below_next HBW.out hb5w)
        | (refine wpList_load_mid rfl 108 _ rfl (wr.heap.size + 1) 0 (by rfl) [.int .i64 q, .int .i64 (min a1 m)] _ HX2.out Tryz.underlying108 rfl (by rw [(zero_of_info info_rg).2]; rfl) ?_)
        | (at_builtin; refine wp_appR1 rfl _ _ rfl w3.heap.size _ o o.length rfl (q, min a1 m) w5.heap.size rfl (OwnR.below HO5.out (al (bR _ _) _)) rfl (heap_alloc_new w5 _) hol9 (by simp at hs5 ⊢; omega) ?_; intro g6 c6 w6 hown6 hg6 hlies6; have hx6 : w6.cell? ⟨wr.heap.size, 1, none⟩ = some (.int .i64 a2) := hg6.cell (((al (Below.refl _ w5) _).cell (p := ⟨wr.heap.size, 1, none⟩) (World.block_lt_of_cell? w5 _ HX1.out)).trans HX1.out) (fun h => by have h9 := (World.ownsRow.lt HO4.out wr.heap.size h.symm).2; omega); have HB6 : Hid (Below w3.heap.size w3 w6) := (al HB5.out _).grown hg6 (by simp at hs5 ⊢; omega) (fun k hk => (World.ownsRow.lt HO4.out k hk).1)))
      go_roundw
      case rel => exact ⟨k + 1, _, _, by omega, by go_num, rfl, hown6, (by have := HOL.out; simp only [List.length_append, List.length_cons, List.length_nil]; omega), HB6.out, HNX.out⟩
      case measure => simp [intOf]; omega
    · have hgd : decide (min a1 m ≤ q) = true := by simp; omega
      rw [gapped_no hg] at HNX
      go_wp2_with (first
        | (refine wpList_load_mid rfl 108 _ rfl g3 (k * 2) (by rfl) [.int .i64 a1, .int .i64 a2] _ HRG.out Tryz.underlying108 rfl (by rw [(zero_of_info info_rg).2]; rfl) ?_)
        | (go_at_call 84; refine (empty_t _ _ _).mono ?_; rintro e w5 ⟨rfl, hb5⟩; have hb5w : Below wr.heap.size wr w5 := below_next (al (al (bR _ _) _) _) hb5; have hs5 := hb5.size; have HX1 : Hid (w5.cell? ⟨wr.heap.size, 1, none⟩ = some (.int .i64 a2)) := (((rd_lit1 wr (a1, a2)).below (below_next (al (bR _ _) _) hb5)).range 0 (Nat.zero_lt_succ _)) 1 _ rfl; have HX2 : Hid (w5.rangeAt (wr.heap.size + 1) 0 [.int .i64 q, .int .i64 (min a1 m)]) := (by have h9 := ((rd_lit1 (wr.alloc (.cells #[.int .i64 a1, .int .i64 a2] 108 (0, 0))) (q, min a1 m)).below hb5); rw [heap_alloc_size1] at h9; exact h9.range 0 (Nat.zero_lt_succ _)); have HO5 : Hid (OwnR w5 w3.heap.size u5 o) := OwnR.below HO4.out hb5w; have HB5 : Hid (Below w3.heap.size w3 w5) := below_next HBW.out hb5w; have hx5 := HX1.out))
      go_roundw
      case rel => exact ⟨k + 1, _, _, by omega, by go_num, rfl, HO5.out, (by have := HOL.out; omega), HB5.out, HNX.out⟩
      case measure => simp [intOf]; omega
  · have hlti : ¬ (k : Int) < (L : Int) + 1 := by omega
    have HF : Hid (MissS ls o m) := by
     rcases HST.out with ⟨h1, -⟩ | ⟨-, h2⟩
     · omega
     · exact h2
    clear hbw; go_wp2; go_ret; exact ⟨_, o, rfl, OwnR.base HO4.out HB3.out.size, ⟨HF.out.1, fun i => by rw [HF.out.2 i, HLS.out.2.1 i]⟩, by have := HOL.out; omega, below_next HB3.out HBW.out⟩
end
end Go.Proofs.YtpakkpahcpgnnaaGreatDoor
