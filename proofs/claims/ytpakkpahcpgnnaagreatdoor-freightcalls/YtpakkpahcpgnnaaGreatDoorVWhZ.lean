import Derived.Test.YtpakkpahcpgnnaaGreatDoorVWhW
import Derived.Test.YtpakkpahcpgnnaaGreatDoorGShelf2
import Derived.Shelf.SlSortCmp.NoneTotal
set_option linter.unusedVariables false
set_option linter.unusedSimpArgs false
namespace Go.Proofs.YtpakkpahcpgnnaaGreatDoor.Wh
open Go.RowKit Go.Shelf Go.Sort
section
set_option maxRecDepth 20000
set_option maxHeartbeats 1600000
theorem nan_t (x : Int) (w : World) : Calls Tryz.prog 125 #[.int .u64 x] w fun e w' => e = .returned (.bool false) ∧ w' = w := by
 go_enter Tryz.func125, Tryz.ntmps125
 go_wp2; go_ret; exact ⟨by simp, rfl⟩
theorem cmp_t (x y : Int) (w : World) : Calls Tryz.prog 108 #[.int .u64 x, .int .u64 y] w fun e w' => e = .returned (.int .i64 (Lib.compareInt x y)) ∧ w' = w := by
 have HR : Hid (Lib.compareInt x y = if x < y then -1 else if x > y then 1 else 0) := rfl; obtain ⟨r, hr⟩ : ∃ r, r = Lib.compareInt x y := ⟨_, rfl⟩; rw [← hr]; have HQ : Hid (r = if x < y then -1 else if x > y then 1 else 0) := by unfold Hid; rw [hr]; exact HR.out
 clear hr HR
 by_cases h1 : x < y
 · have h9 : Hid (r = -1) := by have := HQ.out; unfold Hid; rw [if_pos h1] at this; exact this
   clear HQ; go_enter Tryz.func108, Tryz.ntmps108
   go_wp2_with (go_at_call 125; refine (nan_t _ _).mono ?_; rintro e w' ⟨rfl, rfl⟩)
   go_ret; rw [h9.out]; exact ⟨rfl, rfl⟩
 · by_cases h2 : y < x
   · have h9 : Hid (r = 1) := by have := HQ.out; unfold Hid; rw [if_neg h1, if_pos h2] at this; exact this
     clear HQ; go_enter Tryz.func108, Tryz.ntmps108
     go_wp2_with (go_at_call 125; refine (nan_t _ _).mono ?_; rintro e w' ⟨rfl, rfl⟩)
     go_ret; rw [h9.out]; exact ⟨rfl, rfl⟩
   · have h9 : Hid (r = 0) := by have := HQ.out; unfold Hid; rw [if_neg h1, if_neg h2] at this; exact this
     clear HQ; go_enter Tryz.func108, Tryz.ntmps108
     go_wp2_with (go_at_call 125; refine (nan_t _ _).mono ?_; rintro e w' ⟨rfl, rfl⟩)
     go_ret; rw [h9.out]; exact ⟨rfl, rfl⟩
theorem or_t (g c : Nat) (a b : Int) (w : World) (ha : w.cell? ⟨g, 0, none⟩ = some (.int .i64 a)) (hb : w.cell? ⟨g, 1, none⟩ = some (.int .i64 b)) : Calls Tryz.prog 107 #[.slice (some ⟨g, 0, none⟩) 2 c] w fun e w' => e = .returned (.int .i64 (if a = 0 then b else a)) ∧ w' = w := by
 go_enter Tryz.func107, Tryz.ntmps107
 go_wp2; go_loop [8] (fun i => (i = .int .i64 0) ∨ (i = .int .i64 1 ∧ a = 0) ∨ (i = .int .i64 2 ∧ a = 0 ∧ b = 0)) (fun i => 2 - (intOf i).toNat)
 case atStart => exact .inl rfl
 case round =>
  rcases hrel with rfl | ⟨rfl, h0⟩ | ⟨rfl, h0, h1⟩
  · by_cases h : a = 0
    · have hn : (a != 0) = false := by simp [h]
      go_wp2; go_round
      case rel => exact .inr (.inl ⟨rfl, h⟩)
      case measure => simp [intOf]
    · have hn : (a != 0) = true := by simp [h]
      go_wp2; go_ret; exact ⟨rfl, rfl⟩
  · by_cases h : b = 0
    · have hn : (b != 0) = false := by simp [h]
      go_wp2; go_round
      case rel => exact .inr (.inr ⟨rfl, h0, h⟩)
      case measure => simp [intOf]
    · have hn : (b != 0) = true := by simp [h]
      go_wp2; go_ret; exact ⟨rfl, rfl⟩
  · go_wp2; go_ret; exact ⟨rfl, rfl⟩
end
theorem or_r (g c : Nat) (a b r : Int) (hr : r = if a = 0 then b else a) (w : World) (ha : w.cell? ⟨g, 0, none⟩ = some (.int .i64 a)) (hb : w.cell? ⟨g, 1, none⟩ = some (.int .i64 b)) : Calls Tryz.prog 107 #[.slice (some ⟨g, 0, none⟩) 2 c] w fun e w' => e = .returned (.int .i64 r) ∧ w' = w := by
 rw [hr]; exact or_t g c a b w ha hb
abbrev cmpT (x y : Tm) : Int := if Lib.compareInt x.at_ y.at_ = 0 then Lib.compareInt x.ord y.ord else Lib.compareInt x.at_ y.at_
def ltT (x y : Tm) : Prop := x.at_ < y.at_ ∨ (x.at_ = y.at_ ∧ x.ord < y.ord)
theorem ltT_ltOf (x y : Tm) : ltOf cmpT x y = true ↔ ltT x y := by
 unfold ltOf cmpT Lib.compareInt ltT
 by_cases h1 : x.at_ < y.at_
 · simp [h1]
 · by_cases h2 : x.at_ = y.at_
   · by_cases h3 : x.ord < y.ord
     · simp [h2, h3]
     · by_cases h4 : y.ord < x.ord
       · simp [h2, h3, h4]
       · simp [h2, h3, h4]
   · have h3 : y.at_ < x.at_ := by omega
     simp [h1, h2, h3]
theorem swoT : SWO (ltOf cmpT) := {
 irrefl := fun x => by
  cases h : ltOf cmpT x x
  · rfl
  · have := (ltT_ltOf x x).1 h; unfold ltT at this; omega
 trans := fun x y z h1 h2 => by
  rw [ltT_ltOf] at *; unfold ltT at *; omega
 ntrans := fun x y z h1 h2 => by
  have a1 : ¬ ltT x y := fun h => by rw [(ltT_ltOf x y).2 h] at h1; cases h1
  have a2 : ¬ ltT y z := fun h => by rw [(ltT_ltOf y z).2 h] at h2; cases h2
  cases h : ltOf cmpT x z
  · rfl
  · have a3 := (ltT_ltOf x z).1 h; unfold ltT at *
    omega }
section
set_option maxRecDepth 20000
set_option maxHeartbeats 1600000
theorem clos_t (x y : Tm) (w : World) : Calls Tryz.prog 106 #[tma x, tma y] w fun e w' => e = .returned (.int .i64 (cmpT x y)) ∧ ∃ q os', w' = grow (w.drewN q) os' := by
 have HC1 : Hid _ := fun W => cmp_t (x.at_ : Int) (y.at_ : Int) W
 have HC2 : Hid _ := fun W => cmp_t (x.ord : Int) (y.ord : Int) W
 unfold cmpT; generalize Lib.compareInt x.at_ y.at_ = r1 at HC1 ⊢; generalize Lib.compareInt x.ord y.ord = r2 at HC2 ⊢; obtain ⟨R, hR⟩ : ∃ R, R = (if r1 = 0 then r2 else r1) := ⟨_, rfl⟩; rw [← hR]; have HRR : Hid _ := hR; clear hR; obtain ⟨P, hP⟩ : ∃ P, P = w.heap.size := ⟨_, rfl⟩; obtain ⟨w2, hw2⟩ : ∃ w2, w2 = (w.alloc (Obj.cells #[.int .i64 x.id, .int .u64 (x.at_ : Int), .int .u64 (x.ord : Int)] tTm)).alloc (Obj.cells #[.int .i64 y.id, .int .u64 (y.at_ : Int), .int .u64 (y.ord : Int)] tTm) := ⟨_, rfl⟩
 have hA : w2.heap[P]? = some (.cells #[.int .i64 x.id, .int .u64 (x.at_ : Int), .int .u64 (x.ord : Int)] tTm (0, 0)) := by
  rw [hw2, hP]; exact (heap_alloc_old (w.alloc _) _ (by simp)).trans (heap_alloc_new w _)
 have hB : w2.heap[P + 1]? = some (.cells #[.int .i64 y.id, .int .u64 (y.at_ : Int), .int .u64 (y.ord : Int)] tTm (0, 0)) := by
  rw [hw2, hP]; have h9 := heap_alloc_new (w.alloc (Obj.cells #[.int .i64 x.id, .int .u64 (x.at_ : Int), .int .u64 (x.ord : Int)] tTm)) (Obj.cells #[.int .i64 y.id, .int .u64 (y.at_ : Int), .int .u64 (y.ord : Int)] tTm); rw [World.size_alloc] at h9; exact h9
 have hS2 : w2.cell? ⟨P, 1, none⟩ = some (.int .u64 (x.at_ : Int)) ∧ w2.cell? ⟨P, 2, none⟩ = some (.int .u64 (x.ord : Int)) ∧ w2.cell? ⟨P + 1, 1, none⟩ = some (.int .u64 (y.at_ : Int)) ∧ w2.cell? ⟨P + 1, 2, none⟩ = some (.int .u64 (y.ord : Int)) := ⟨(cell3 hA).2.1, (cell3 hA).2.2, (cell3 hB).2.1, (cell3 hB).2.2⟩
 have HS3 : Hid (∀ o : Obj, (w2.alloc o).cell? ⟨P, 1, none⟩ = some (.int .u64 (x.at_ : Int)) ∧ (w2.alloc o).cell? ⟨P, 2, none⟩ = some (.int .u64 (x.ord : Int)) ∧ (w2.alloc o).cell? ⟨P + 1, 1, none⟩ = some (.int .u64 (y.at_ : Int)) ∧ (w2.alloc o).cell? ⟨P + 1, 2, none⟩ = some (.int .u64 (y.ord : Int))) := fun o => by
  have hA' := (heap_alloc_old w2 o (sI hA).1).trans hA; have hB' := (heap_alloc_old w2 o (sI hB).1).trans hB; exact ⟨(cell3 hA').2.1, (cell3 hA').2.2, (cell3 hB').2.1, (cell3 hB').2.2⟩
 have HN : Hid (∀ a b : Value, (w2.alloc (Obj.cells #[a, b] 3)).cell? ⟨w2.heap.size, 0, none⟩ = some a ∧ (w2.alloc (Obj.cells #[a, b] 3)).cell? ⟨w2.heap.size, 1, none⟩ = some b) := fun a b => by
  have h9 := heap_alloc_new w2 (Obj.cells #[a, b] 3); exact ⟨by rw [cR h9]; rfl, by rw [cR h9]; rfl⟩
 clear hA hB; go_enter Tryz.func106, Tryz.ntmps106
 go_wp2; rw [← hw2, ← hP]; have HW2 : Hid _ := hw2; clear hw2 hP; refine wp_region_noPanic ?_; refine wp_region_held_drew (S := (fun u => u.cell? ⟨P, 1, none⟩ = some (.int .u64 (x.at_ : Int)) ∧ u.cell? ⟨P, 2, none⟩ = some (.int .u64 (x.ord : Int)) ∧ u.cell? ⟨P + 1, 1, none⟩ = some (.int .u64 (y.at_ : Int)) ∧ u.cell? ⟨P + 1, 2, none⟩ = some (.int .u64 (y.ord : Int)))) (by kernel_rfl) (by first | exact hS2 | exact HS3.out _) (fun hHeld => ?_); refine tz 0 5 hHeld ?_; simp only [pS]; refine tz 1 6 hHeld ?_; simp only [pS]; refine tz 2 7 hHeld ?_; simp only [pS]; refine tz 3 8 hHeld ?_; simp only [pS]; refine tz 5 10 hHeld ?_; simp only [pS]; refine tz 6 11 hHeld ?_; simp only [pS]; refine tz 7 12 hHeld ?_; simp only [pS]; refine tz 8 13 hHeld ?_; simp only [pS]; refine run_at (i := 4) rfl (by kernel_rfl) (by rfl) (fun K hK => ?_); simp only [gE]; go_simp
 first | (go_at_call 108; first | (with_reducible refine Calls.mono (HC1.out _) ?_; rintro e u4 ⟨rfl, hq4⟩; have hq4 := hq4.symm; subst hq4) | (with_reducible refine Calls.mono (HC2.out _) ?_; rintro e u4 ⟨rfl, hq4⟩; have hq4 := hq4.symm; subst hq4)) | (go_at_call 107; refine Calls.mono (or_r _ _ r1 r2 R HRR.out _ (HN.out _ _).1 (HN.out _ _).2) ?_; rintro e u4 ⟨rfl, hq4⟩; have hq4 := hq4.symm; subst hq4)
 (go_wp2_with fail); refine hK.out _ _ (by first | exact hS2 | exact HS3.out _) ?_; clear hK K; clear hHeld; intro hHeld; (try simp only [pS]); refine run_at (i := 9) rfl (by kernel_rfl) (by rfl) (fun K hK => ?_); simp only [gE]; go_simp
 first | (go_at_call 108; first | (with_reducible refine Calls.mono (HC1.out _) ?_; rintro e u4 ⟨rfl, hq4⟩; have hq4 := hq4.symm; subst hq4) | (with_reducible refine Calls.mono (HC2.out _) ?_; rintro e u4 ⟨rfl, hq4⟩; have hq4 := hq4.symm; subst hq4)) | (go_at_call 107; refine Calls.mono (or_r _ _ r1 r2 R HRR.out _ (HN.out _ _).1 (HN.out _ _).2) ?_; rintro e u4 ⟨rfl, hq4⟩; have hq4 := hq4.symm; subst hq4)
 (go_wp2_with fail); refine hK.out _ _ (by first | exact hS2 | exact HS3.out _) ?_; clear hK K; clear hHeld; intro hHeld; (try simp only [pS]); refine run_at (i := 10) rfl (by kernel_rfl) (by rfl) (fun K hK => ?_); simp only [gE]; go_simp; (go_wp2_with fail); refine hK.out _ _ (by first | exact hS2 | exact HS3.out _) ?_; clear hK K; clear hHeld; intro hHeld; (try simp only [pS]); refine run_at (i := 11) rfl (by kernel_rfl) (by rfl) (fun K hK => ?_); simp only [gE]; go_simp
 first | (go_at_call 108; first | (with_reducible refine Calls.mono (HC1.out _) ?_; rintro e u4 ⟨rfl, hq4⟩; have hq4 := hq4.symm; subst hq4) | (with_reducible refine Calls.mono (HC2.out _) ?_; rintro e u4 ⟨rfl, hq4⟩; have hq4 := hq4.symm; subst hq4)) | (go_at_call 107; refine Calls.mono (or_r _ _ r1 r2 R HRR.out _ (HN.out _ _).1 (HN.out _ _).2) ?_; rintro e u4 ⟨rfl, hq4⟩; have hq4 := hq4.symm; subst hq4)
 (go_wp2_with fail); refine hK.out _ _ (by first | exact hS2 | exact HS3.out _) ?_; clear hK K; clear hHeld; intro hHeld; (try simp only [pS]); refine tz 12 4 hHeld ?_; simp only [pS]; refine wpAnyH_done (by kernel_rfl) ?_ _; refine NoPanic.normal ?_; go_wp2; go_ret
 exact ⟨rfl, 1, _, by
   rw [HW2.out]; show (((w.drewN 1).alloc _).alloc _).alloc _ = _
   rw [alloc_eq_grow, alloc_eq_grow, alloc_eq_grow, grow_grow, grow_grow]⟩
end
theorem take_putT (cur : Array Value) (ys : List Tm) (h : ys.length * 3 ≤ cur.size) : (putCells id 0 (flatM ys).toArray cur).toList.take (ys.length * 3) = flatM ys := by
 apply List.ext_getElem?; intro j
 by_cases hj : j < ys.length * 3
 · have hj' : j < (flatM ys).length := by rw [flatM_len]; exact hj
   rw [List.getElem?_take_of_lt hj, Array.getElem?_toList]; simp [putCells, hj', show j < cur.size by omega]
 · rw [List.getElem?_take_eq_none (by omega), List.getElem?_eq_none (by rw [flatM_len]; omega)]
section
variable [Inhabited Tm]
theorem flatK_tm (xs : List Tm) : flatK tmv 3 xs.toArray = (flatM xs).toArray := by
 refine ext_get! (by simp [flatM_len]) fun t ht => ?_
 have ht' : t < xs.length * 3 := by simpa using ht
 rw [get_flatK _ _ _ t (by simpa using ht')]; have hq : t / 3 < xs.length := by omega
 have hx : xs.toArray[t / 3]! = xs[t / 3] := by rw [getElem!_pos _ _ (by simpa using hq)]; simp
 have h1 := flatM_get xs (t / 3) (t % 3) hq (by omega); rw [show t / 3 * 3 + t % 3 = t by omega] at h1; rw [hx, getElem!_pos (flatM xs).toArray t (by simp [flatM_len]; omega)]; have h4 : t % 3 = 0 ∨ t % 3 = 1 ∨ t % 3 = 2 := by omega
 rcases h4 with h | h | h <;>
 · rw [h] at h1 ⊢; obtain ⟨_, h3⟩ := List.getElem?_eq_some_iff.1 h1; simp [h3]
theorem holdsT {w : World} {g : Nat} {cur : Array Value} {e : TypeId} {xs : List Tm} (hb : w.heap[g]? = some (.cells cur e (0, 0))) (ht : cur.toList.take (xs.length * 3) = flatM xs) : HoldsK tmv 3 w g 0 xs.toArray := by
 unfold HoldsK; rw [flatK_tm]; intro j hj; have hj' : j < (flatM xs).length := by simpa using hj
 have hj2 : j < xs.length * 3 := by rw [flatM_len] at hj'; exact hj'
 refine ⟨?_, by simp [World.frozen?, hb]⟩; have h1 : (cur.toList.take (xs.length * 3))[j]? = (flatM xs)[j]? := by rw [ht]
 rw [List.getElem?_take_of_lt hj2] at h1; simp only [World.cell?, hb, Nat.zero_add]; simp only [Option.isSome_none, Bool.false_eq_true, if_false]; rw [← Array.getElem?_toList, h1]; simp [hj']
theorem heap_sortT {w : World} {g n : Nat} {os : Array Obj} {cur : Array Value} {e : TypeId} {fr : Nat × Nat} (d : Array Tm) (hb : w.heap[g]? = some (.cells cur e fr)) :
 (sortWorldK tmv 3 w g 0 n d os).heap[g]? = some (.cells (putCells id 0 (flatK tmv 3 d) cur) e fr) := by
 have hg : g < w.heap.size := (sI hb).1; unfold sortWorldK putRowK; rw [heap_grow_old _ _ (by simpa using hg)]; simp [putRow, mapBlock, Sort.ahead, Array.getElem?_modify, hb, onCells]
theorem grown_sortT {w : World} {g n : Nat} {os : Array Obj} (d : Array Tm) : w.grownBy (sortWorldK tmv 3 w g 0 n d os) (some g) := by
 unfold sortWorldK putRowK; refine ⟨rfl, rfl, rfl, by simp, fun k hk hne => ?_⟩; rw [heap_grow_old _ _ (by simpa using hk)]; have : g ≠ k := fun e => hne (by rw [e])
 simp [putRow, mapBlock, Sort.ahead, Array.getElem?_modify, this]
theorem ownT_sorted {w : World} {B g cap n : Nat} {os : Array Obj} {cur : Array Value} {xs ys : List Tm} (hl : ys.length = xs.length) (hB : B ≤ g) (hb : w.heap[g]? = some (.cells cur tTm (0, 0)))
 (h1 : xs.length ≤ cap) (h2 : cap ≤ maxLen) (h3 : cur.size = cap * 3) : OwnM (sortWorldK tmv 3 w g 0 n ys.toArray os) B (.slice (some ⟨g, 0, none⟩) xs.length cap) ys := by
 refine ⟨flatM_len ys, .inr ⟨g, cap, _, by rw [hl], hB, heap_sortT _ hb, by omega, h2, by simp [putCells, h3], ?_⟩⟩; rw [flatK_tm]; exact take_putT cur ys (by omega)
theorem perm_of_in {d d' : Array Tm} (h : PermIn 0 d.size d d') : d'.toList.Perm d.toList := by
 obtain ⟨h1, -, h3⟩ := h; have e : d'.extract 0 d.size = d' := by rw [← h1]; simp
 rw [e] at h3
 simpa using h3
theorem pair_of_sorted {d : Array Tm} {n : Nat} (hn : n = d.size) (h : SortedIn (ltOf cmpT) 0 n d) : d.toList.Pairwise (fun x y => ¬ ltT y x) := by
 rw [List.pairwise_iff_getElem]; intro i j hi hj hij; have h9 := h i j (Nat.zero_le _) hij (by rw [hn]; simpa using hj); rw [getElem!_pos d i (by simpa using hi), getElem!_pos d j (by simpa using hj)] at h9; intro h8; have h7 := (ltT_ltOf _ _).2 h8; simp at h7; rw [h7] at h9; cases h9
end
section
set_option maxRecDepth 20000
set_option maxHeartbeats 1600000
theorem laysF [Inhabited Tm] (g o n : Nat) (w : World) : CmpLays Tryz.prog 106 #[] tmv 3 cmpT g o n w := fun _ _ _ _ x y => clos_t x y _
theorem sort_s (B g cap : Nat) (xs : List Tm) (w : World) (h : OwnM w B (.slice (some ⟨g, 0, none⟩) xs.length cap) xs) (hl : xs.length ≤ 4398046511104) :
 Calls Tryz.prog 105 #[.slice (some ⟨g, 0, none⟩) xs.length cap, .func (.func 106) #[] #[]] w fun e w' => e = .returned (.tuple #[]) ∧ ∃ ys : List Tm, ys.Perm xs ∧ ys.Pairwise (fun x y => ¬ ltT y x) ∧ OwnM w' B (.slice (some ⟨g, 0, none⟩) xs.length cap) ys ∧ w.grownBy w' (some g) := by
 haveI : Inhabited Tm := ⟨⟨0, 0, 0⟩⟩
 rcases h.2 with ⟨h0, _⟩ | ⟨g', cap', cur, hv, hB, hg, hn, hm, hs, ht⟩
 · cases h0
 · simp only [Value.slice.injEq, Option.some.injEq, Addr.mk.injEq] at hv; obtain ⟨⟨rfl, -⟩, -, rfl⟩ := hv; have eg : ∀ args w, (callFunc 106 args).run Tryz.prog w = .ok (.enter 106 args) w := enters_of Tryz.func106 (by kernel_rfl) rfl; have hcon := AnyQ.slices_SortFunc Tryz.sortS 3 Tryz.isAgg182 Tryz.sizeOf182 tmv (fun _ => rfl) (fun x v hv => by simp at hv; rcases hv with rfl | rfl | rfl <;> rfl) cmpT swoT 106 #[] g 0 cap xs.toArray w eg (laysF g 0 _ w) (holdsT hg ht) (sI hg).1 (by simp; omega)
   change Calls Tryz.prog 105 #[.slice (some ⟨g, 0, none⟩) xs.length cap, _] w _ at hcon
   refine hcon.mono ?_; rintro e w' ⟨rfl, d', n, os, hp, hso, rfl⟩; have hpp : d'.toList.Perm xs := by simpa using perm_of_in hp
   refine ⟨rfl, d'.toList, hpp, pair_of_sorted (by rw [hp.1]) hso, ?_, grown_sortT _⟩; have e9 : d' = d'.toList.toArray := by simp
   rw [e9]; simp only [List.toList_toArray]; exact ownT_sorted (hpp.length_eq) hB hg hn hm hs
end
end Go.Proofs.YtpakkpahcpgnnaaGreatDoor.Wh
namespace Go.Proofs.YtpakkpahcpgnnaaGreatDoor.Wh
open Go.RowKit Go.Maps Go.Shelf
theorem sort_t (B : Nat) (v : Value) (xs : List Tm) (w : World) (h : OwnM w B v xs) (hl : xs.length ≤ 4398046511104) :
 Calls Tryz.prog 105 #[v, .func (.func 106) #[] #[]] w fun e w' => e = .returned (.tuple #[]) ∧ ∃ ys : List Tm, ys.Perm xs ∧ ys.Pairwise (fun x y => ¬ ltT y x) ∧ OwnM w' B v ys ∧ w.grownBy w' v.ownBlock := by
 rcases h.2 with ⟨rfl, h0⟩ | ⟨g, cap, cur, rfl, r⟩
 · obtain rfl : xs = [] := List.eq_nil_of_length_eq_zero h0; refine (AnyF.slices_SortFunc_none Tryz.sortS none 0 (.func (.func 106) #[] #[]) w).mono ?_; rintro e w' ⟨rfl, rfl⟩; exact ⟨rfl, [], .refl _, List.Pairwise.nil, h, World.grownBy.refl _ _⟩
 · exact sort_s B g cap xs w h hl
def AdvIs (L : List Tm) (n : Nat) (D : List Tm) : Prop := D.Pairwise ltT ∧ ∀ t, t ∈ D ↔ t ∈ L ∧ t.at_ ≤ n
theorem ltT_irr (x : Tm) : ¬ ltT x x := fun h => by unfold ltT at h; omega
theorem Ord.inj {N S : Nat} {L : List Tm} (h : Ord N S L) {t u : Tm} (ht : t ∈ L) (hu : u ∈ L) (e : t.ord = u.ord) : t = u := by
 obtain ⟨i, hi, rfl⟩ := List.mem_iff_getElem.1 ht; obtain ⟨j, hj, rfl⟩ := List.mem_iff_getElem.1 hu; have h1 := List.pairwise_iff_getElem.1 h.ord; rcases Nat.lt_trichotomy i j with h2 | h2 | h2
 · have := h1 i j hi hj h2; omega
 · subst h2; rfl
 · have := h1 j i hj hi h2; omega
theorem adv_of {N S n : Nat} {L D ys : List Tm} (ho : Ord N S L) (hn : D.Nodup) (hD : ∀ t, t ∈ D ↔ t ∈ L ∧ t.at_ ≤ n) (hp : ys.Perm D) (hs : ys.Pairwise (fun x y => ¬ ltT y x)) : AdvIs L n ys := by
 have hm : ∀ t, t ∈ ys ↔ t ∈ L ∧ t.at_ ≤ n := fun t => (hp.mem_iff).trans (hD t)
 refine ⟨?_, hm⟩; have hnd : ys.Nodup := hp.nodup_iff.2 hn; rw [List.pairwise_iff_getElem] at *; intro i j hi hj hij; have h1 := hs i j hi hj hij
 have h2 : ys[i] ≠ ys[j] := by
  have := List.pairwise_iff_getElem.1 hnd i j hi hj hij; exact this
 have h3 : ys[i].ord ≠ ys[j].ord := fun e => h2 (ho.inj ((hm _).1 (List.getElem_mem hi)).1 ((hm _).1 (List.getElem_mem hj)).1 e)
 unfold ltT at *; omega
def OwnZ (w : World) (B : Nat) (v : Value) (zs : List Int) : Prop := w.ownsRow B 3 1 v zs.length (zs.map (fun z => .int .i64 z))
theorem infoZ : (Tryz.prog.info? 3).map (fun i => (i.zero, i.size, i.bytes)) = some (some (.int .i64 0), 1, 8) := by kernel_rfl
theorem wp_app1Z {w : World} {ops : Array Oper} {rest : List Oper} {o : Oper} {a : Act} {Q : Exit → Act → World → Prop} (hgd : o.guard = none) (s x : Operand)
 (ho : o.op = .call { callee := .builtin .append, args := #[s, x], argTypes := #[143, 143] }) (B : Nat) (v : Value) (zs : List Int) (z : Int) (g0 : Nat)
 (hs : a.eval s = v) (hown : OwnZ w B v zs) (hx : a.eval x = .slice (some ⟨g0, 0, none⟩) 1 1) (hr : w.heap[g0]? = some (.cells #[.int .i64 z] 3 (0, 0)))
 (hb : zs.length + 1 ≤ 4398046511104) (hbase : B ≤ w.heap.size)
 (h : ∀ v' w', OwnZ w' B v' (zs ++ [z]) → w.grownBy w' v.ownBlock → (∀ b, v'.ownBlock = some b → v.ownBlock = some b ∨ b = w.heap.size) → wpList Tryz.prog ops Q rest (a.put o.dst v') w') : wpList Tryz.prog ops Q (o :: rest) a w := by
 obtain ⟨i0, hi, hz0, hz1, hz2⟩ := info_parts infoZ; refine wpList_append_lies w hgd s x 143 ho B 3 i0 (.int .i64 0) 1 8 Tryz.underlying143 hi hz0 hz1 hz2 rfl (by decide) v zs.length (zs.map (fun z => .int .i64 z)) hs hown ⟨g0, 0, none⟩ 1 1 [.int .i64 z] hx rfl (World.news_of_block hr) (by intro u hu; simp at hu; rcases hu with rfl; rfl) (by decide) (by simp only [maxLen]; omega) (by omega) hbase _ rfl ?_; intro g cap w' h1 h2 h3 h4; refine h _ w' ?_ h2 (fun b e => ?_)
 · unfold OwnZ; rw [List.length_append, List.map_append]; exact h1
 · cases e; exact h3
theorem rowZ_kept {w w' : World} {B : Nat} {v : Value} {zs : List Int} (h : OwnZ w B v zs) (hk : ∀ b, v.ownBlock = some b → w'.heap[b]? = w.heap[b]?) : OwnZ w' B v zs := by
 refine ⟨h.1, ?_⟩; rcases h.2 with h0 | ⟨g, cap, cur, e, hB, hg, r⟩
 · exact .inl h0
 · exact .inr ⟨g, cap, cur, e, hB, (hk g (by rw [e]; rfl)).trans hg, r⟩
theorem rowZ_below {w w' : World} {B : Nat} {v : Value} {zs : List Int} (h : OwnZ w B v zs) (hb : Below w.heap.size w w') : OwnZ w' B v zs := rowZ_kept h (fun b h9 => hb.block b (World.ownsRow.lt h b h9).2)
theorem step_delW {w : World} {m : Nat} {K : List Int} {X : Int → Pl} {ops : Array Oper} {o : Oper} {a : Act} {K' : Act → World → Prop} {Q : Exit → Act → World → Prop} {E : Prop} (hgd : o.guard = none) (mo x : Operand) (ho : o.op = .call { callee := .builtin .delete, args := #[mo, x], argTypes := #[tMp, 3] }) (z : Int)
 (hm : a.eval mo = .map (some m)) (hx : a.eval x = .int .i64 z) (h : MapW w m K X) (hz : inI z) (hK : ∀ w', MapW w' m (K.filter (fun y => decide (y ≠ z))) X → w.grownBy w' (some m) → K' (a.put o.dst (.tuple #[])) w') : if Region.wanted o (yielded ops a.tmps) = true then Oper.wp Tryz.prog o a w K' Q else E := by
 rw [if_pos (by simp [Region.wanted, hgd])]; obtain ⟨w', hr, h1, h2⟩ := h.del hz o.type; unfold Oper.wp; simp [execOp, ho, resolve, invoke, builtin, hm, hx, hr, Result.andThen]; exact hK w' h1 h2
end Go.Proofs.YtpakkpahcpgnnaaGreatDoor.Wh
namespace Go.Proofs.YtpakkpahcpgnnaaGreatDoor.Wh
open Go.RowKit Go.Maps Go.Shelf
theorem OwnM.zero {w : World} {B : Nat} {v : Value} {xs : List Tm} (h : OwnM w B v xs) : OwnM w 0 v xs :=
 ⟨h.1, h.2.imp id (fun ⟨g, cap, cur, h1, _, h3⟩ => ⟨g, cap, cur, h1, Nat.zero_le _, h3⟩)⟩
theorem sorted_nd {D : List Tm} (h : D.Pairwise ltT) : D.Nodup := by
 refine List.Pairwise.imp ?_ h; intro a b h9 e; subst e; exact ltT_irr _ h9
section
variable {w w' : World} {p m N S : Nat} {L : List Tm} {V : Nat → Nat → Value}
set_option maxRecDepth 20000 in
set_option maxHeartbeats 3200000 in
theorem advance_no (h : Wt w p m N S L V) (x : Nat) (hx : min x mxN ≤ N) :
 Calls Tryz.prog 75 #[.pointer (some ⟨p, 0, none⟩), .int .u64 (x : Int)] w fun e w' => e = .returned (.slice none 0 0) ∧ w' = w := by
 obtain ⟨F, X, hx1, -, -⟩ := h; have hcM := hx1.cM; have hcN := hx1.cN; obtain ⟨N', hN'⟩ : ∃ N', N' = min x mxN := ⟨_, rfl⟩; rw [← hN'] at hx; have hxi : (N' : Int) ≤ (N : Int) := by omega
 have HN : Hid _ := hN'; clear hN'; go_enter Tryz.func75, Tryz.ntmps75
 go_wp2_with (first
   | (go_at_call 67; refine Calls.mono (time_t x _) ?_; rintro e w' ⟨rfl, hq⟩; have hq := hq.symm; subst hq; rw [← HN.out])
   | (go_at_call 68; refine Calls.mono (made_t p (some m) _ hcM) ?_; rintro e w' ⟨rfl, hq⟩; have hq := hq.symm; subst hq))
 go_ret; exact ⟨rfl, rfl⟩
set_option maxRecDepth 20000 in
set_option maxHeartbeats 3200000 in
theorem advance_t (h : Wt w p m N S L V) (x : Nat) (hx : N < min x mxN) (hL : L.length ≤ 4398046511103) (ht : TabZ w) :
 Calls Tryz.prog 75 #[.pointer (some ⟨p, 0, none⟩), .int .u64 (x : Int)] w fun e w' => ∃ v D V', e = .returned v ∧ AdvIs L (min x mxN) D ∧ OwnZ w' w.heap.size v (D.map Tm.id) ∧ Wt w' p m (min x mxN) S (L.filter (fun t => decide (min x mxN < t.at_))) V' ∧ Stp w w' p m V V' := by
 obtain ⟨F, X, hx1, hr, ho⟩ := h; have hcM := hx1.cM; have hcN := hx1.cN; have hmx : min x mxN ≤ mxN := Nat.min_le_right _ _; obtain ⟨N', hN'⟩ : ∃ N', N' = min x mxN := ⟨_, rfl⟩; rw [← hN'] at hx hmx ⊢; have hxi : ¬ (N' : Int) ≤ (N : Int) := by omega
 have HN : Hid _ := hN'; have HX : Hid _ := hx1; have HR : Hid _ := hr; have HO : Hid _ := ho; have HT : Hid _ := ht; have HL : Hid _ := hL; clear hN' hx1 hr ho ht hL; go_enter Tryz.func75, Tryz.ntmps75
 go_wp2_with (first
   | (go_at_call 67; refine Calls.mono (time_t x _) ?_; rintro e w' ⟨rfl, hq⟩; have hq := hq.symm; subst hq; rw [← HN.out])
   | (go_at_call 68; refine Calls.mono (made_t p (some m) _ hcM) ?_; rintro e w' ⟨rfl, hq⟩; have hq := hq.symm; subst hq)
   | (go_at_call 104; refine Calls.mono (turn_t HX.out HR.out HO.out hx hmx (Nat.le_succ_of_le HL.out) HT.out) ?_; rintro e w2 ⟨v2, D2, V2, F2, X2, rfl, hown2, hnd2, hD2, hx2, hr2, hst2, hdis2⟩; have HOW2 : Hid _ := hown2; have HD2 : Hid _ := And.intro hnd2 hD2; have HX2 : Hid _ := hx2; have HR2 : Hid _ := hr2; have HST2 : Hid _ := hst2; have HDIS2 : Hid _ := hdis2; clear hown2 hnd2 hD2 hx2 hr2 hst2 hdis2)
   | (go_at_call 105; refine Calls.mono (sort_t w.heap.size v2 D2 w2 HOW2.out (Nat.le_trans (sub_len HD2.out.1 (fun t h9 => ((HD2.out.2 t).1 h9).1)) (Nat.le_succ_of_le HL.out))) ?_; rintro e w3 ⟨rfl, D, hp3, hs3, hown3, hg3⟩; obtain ⟨a3, c3, hv3, hc3, hnil3, hrd3⟩ := hown3.val; obtain ⟨n3, hn3⟩ : ∃ n3, n3 = D.length := ⟨_, rfl⟩; rw [← hn3] at hv3; subst hv3; have HADV : Hid (AdvIs L N' D) := adv_of HO.out HD2.out.1 HD2.out.2 hp3 hs3; have HOW3 : Hid _ := hown3; have HG3 : Hid _ := hg3; have HN3 : Hid _ := hn3; clear hp3 hs3 hown3 hg3 hc3 hnil3 hrd3 hn3))
 have HX3 : Hid (Wx w3 p m N' S F2 (L.map Tm.id) X2 V2) := by
  obtain ⟨fl, h1, h2⟩ := HX2.out; exact ⟨fl, h1.kept (fun b hf => HG3.out.block b (h1.lt hf) (fun e => HDIS2.out b e.symm hf)), h2⟩
 have HST3 : Hid (Stp w w3 p m V V2) := HST2.out.belowEnd ((bR _ _).grown HG3.out HST2.out.chg.size (fun b e => (World.ownsRow.lt HOW2.out b e).1)) (Nat.le_refl _)
 have hDl : D.length ≤ 4398046511103 := by
  refine Nat.le_trans (sub_len ?_ (L := L) (fun t h9 => ((HADV.out.2 t).1 h9).1)) HL.out; exact sorted_nd HADV.out.1
 clear hcM hcN; go_loopw [6, 29] (fun v i ws => ∃ j : Nat, j ≤ D.length ∧ i = .int .i64 (j : Int) ∧ OwnZ ws w.heap.size v ((D.take j).map Tm.id) ∧ Wx ws p m N' S F2 ((L.map Tm.id).filter (fun y => decide (y ∉ (D.take j).map Tm.id))) X2 V2 ∧ OwnM ws w.heap.size (.slice a3 n3 c3) D ∧ (∀ b, v.ownBlock = some b → (Value.slice a3 n3 c3).ownBlock ≠ some b ∧ ¬ footW p m V2 b) ∧ Stp w ws p m V V2) (fun _ i _ => D.length - (intOf i).toNat)
 case atStart =>
  refine ⟨0, Nat.zero_le _, rfl, World.ownsRow_nil _ _ _ _, ?_, HOW3.out, (by intro b e; cases e), HST3.out⟩; have : (L.map Tm.id).filter (fun y => decide (y ∉ (D.take 0).map Tm.id)) = L.map Tm.id := by rw [List.filter_eq_self]; intro y _; simp
  rw [this]; exact HX3.out
 case round =>
  obtain ⟨j, hj, rfl, hz, hx4, hrow, hdis, hst4⟩ := hrel
  by_cases hlt : j < D.length
  · obtain ⟨t, hT⟩ : ∃ t, t = D[j] := ⟨_, rfl⟩; have htD : t ∈ D := by rw [hT]; exact List.getElem_mem _
    have htL := ((HADV.out.2 t).1 htD).1; have hid : inI t.id := HO.out.rg t htL; obtain ⟨g, cc, hv⟩ := hrow.one (fun e => by rw [e] at hlt; cases hlt); obtain ⟨rfl, -, rfl⟩ := Value.slice.inj hv; obtain ⟨c0, c1, c2⟩ := hrow.cells3 HN3.out j hlt; rw [← hT] at c0 c1 c2; have hjn : j < n3 := by rw [HN3.out]; exact hlt
    have hn3m : n3 ≤ 4398046511104 := by rw [HN3.out]; omega
    have hgl := hrow.lt; have hcM := hx4.cM; have hpl := hx4.lt (.inl rfl : footW p m V2 p); have htk : D.take (j + 1) = D.take j ++ [t] := by rw [List.take_succ_eq_append_getElem hlt, ← hT]
    have hKs : (((L.map Tm.id).filter (fun y => decide (y ∉ (D.take j).map Tm.id))).filter (fun y => decide (y ≠ t.id))) = (L.map Tm.id).filter (fun y => decide (y ∉ (D.take (j + 1)).map Tm.id)) := by
     rw [List.filter_filter, htk]
     congr 1
     funext y
     simp only [List.map_append, List.map_cons, List.map_nil, List.mem_append, List.mem_singleton]
     by_cases h1 : y = t.id <;> by_cases h2 : y ∈ (D.take j).map Tm.id <;> simp [h1, h2]
    have HKS : Hid _ := hKs; have HTK : Hid _ := htk; have HZ : Hid _ := hz; have HX4 : Hid _ := hx4; have HROW : Hid _ := hrow; have HDIS : Hid _ := hdis; have HST4 : Hid _ := hst4; have hszr : w.heap.size ≤ wr.heap.size := hst4.chg.size; have hzl : ((D.take j).map Tm.id).length + 1 ≤ 4398046511104 := by rw [List.length_map, List.length_take]; omega
    obtain ⟨Q, hQ⟩ : ∃ Q, Q = wr.heap.size := ⟨_, rfl⟩
    have HMAP : Hid (∀ o : Obj, MapW (wr.alloc o).drew m ((L.map Tm.id).filter (fun y => decide (y ∉ (D.take j).map Tm.id))) X2) := fun o => by
     obtain ⟨fl, h1, -⟩ := Wx.below hx4 ((al (Below.refl _ wr) o).drew); exact h1.map
    have HQB : Hid (∀ o : Obj, (wr.alloc o).drew.heap[wr.heap.size]? = some o) := fun o => heap_alloc_new wr o
    have HQM : Hid (wr.heap.size ≠ m) := fun e => Nat.lt_irrefl _ (e ▸ hx4.lt (.inr (.inl rfl) : footW p m V2 m))
    clear hKs htk hz hx4 hrow hdis hst4 hv hT htD htL hQ; go_wp2; go_region_law (refine step_delW rfl (.tmp 36) (.tmp 38) rfl t.id (by simp [Act.eval, Act.put]) (by simp [Act.eval, Act.put]) (HMAP.out _) hid ?_; intro w4 hm4 hg4; have hA4 := (hg4.block wr.heap.size (by show wr.heap.size < (wr.alloc _).heap.size; simp) (fun e => HQM.out (Option.some.inj e))).trans (HQB.out _); obtain ⟨b0, b1, b2⟩ := cell3 hA4; have HM4 : Hid _ := hm4; have HG4 : Hid _ := hg4; clear hm4 hg4 hA4)
    all_goals
     obtain ⟨w5, hw5⟩ : ∃ w5, w5 = w4 := ⟨_, rfl⟩; rw [← hw5] at b0 b1 b2 ⊢
     have hx5 : Wx w5 p m N' S F2 ((L.map Tm.id).filter (fun y => decide (y ∉ (D.take (j + 1)).map Tm.id))) X2 V2 := by
      rw [hw5, ← HKS.out]; obtain ⟨fl, h1, h2⟩ := Wx.below HX4.out ((al (Below.refl _ wr) _).drew); exact ⟨fl, h1.mapped HG4.out HM4.out, h2⟩
     have hkeep : ∀ b, b < wr.heap.size → b ≠ m → w5.heap[b]? = wr.heap[b]? := fun b hb hn => by
      rw [hw5]; exact (HG4.out.block b (by show b < (wr.alloc _).heap.size; simp; omega) (fun e => hn (Option.some.inj e))).trans (heap_alloc_old wr _ hb)
     have hst5 : Stp w w5 p m V V2 := by
      rw [hw5]; exact (HST4.out.trans (Stp.below ((al (Below.refl _ wr) _).drew) _ _ _)).trans (Stp.mapped HG4.out)
     have hz5 : OwnZ w5 w.heap.size _ ((D.take j).map Tm.id) := rowZ_kept HZ.out (fun b hb => hkeep b (World.ownsRow.lt HZ.out b hb).2 (fun e => (HDIS.out b hb).2 (.inr (.inl e))))
     have hrow5 : OwnM w5 w.heap.size (.slice (some ⟨g, 0, none⟩) n3 c3) D := rowM_kept HROW.out (fun b hb => hkeep b (World.ownsRow.lt HROW.out b hb).2 (fun e => by
       have h7 := hx5.lt (.inr (.inl rfl) : footW p m V2 m); obtain ⟨es, cl, h8⟩ : ∃ es cl, wr.heap[m]? = some (.map es cl) := by obtain ⟨fl, h1, -⟩ := HX4.out; exact h1.map.at_
       obtain ⟨cur, h9⟩ := rowM_at (OwnM.zero HROW.out) hb; rw [e, h8] at h9
       cases h9))
     have hszw : wr.heap.size ≤ w5.heap.size := by
      rw [hw5]; exact Nat.le_trans (by show wr.heap.size ≤ (wr.alloc _).heap.size; simp) HG4.out.size
     have HX5 : Hid _ := hx5; have HST5 : Hid _ := hst5; have HZ5 : Hid _ := hz5; have HROW5 : Hid _ := hrow5; clear hw5 hx5 hst5 hz5 hrow5 hkeep; go_wp2_with (at_builtin; refine wp_app1Z rfl _ _ rfl w.heap.size _ ((D.take j).map Tm.id) t.id w5.heap.size rfl (rowZ_below HZ5.out (al (bR _ _) _)) rfl (heap_alloc_new w5 _) hzl (by simp; omega) ?_; intro v6 w6 hown6 hg6 hat6; have HO6 : Hid _ := hown6; have HG6 : Hid _ := hg6; have HA6 : Hid _ := hat6; clear hown6 hg6 hat6)
     have hg6 : w5.grownBy w6 (_root_.Go.Value.ownBlock _) := (World.grownBy_alloc w5 _ _).trans' HG6.out; go_roundw
     case rel =>
      refine ⟨j + 1, hlt, by go_num, ?_, ?_, ?_, fun b hb => ?_, ?_⟩
      · rw [HTK.out, List.map_append]; exact HO6.out
      · obtain ⟨fl, h1, h2⟩ := HX5.out; exact ⟨fl, h1.kept (fun b hf => hg6.block b (h1.lt hf) (fun e => (HDIS.out b e.symm).2 hf)), h2⟩
      · exact rowM_kept HROW5.out (fun b hb => hg6.block b (World.ownsRow.lt HROW5.out b hb).2 (fun e => (HDIS.out b e.symm).1 hb))
      · rcases HA6.out b hb with h9 | h9
        · exact HDIS.out b h9
        · have h8 : w5.heap.size < b := by rw [h9]; simp
          refine ⟨fun h7 => ?_, fun h7 => ?_⟩
          · have := (World.ownsRow.lt HROW5.out b h7).2; omega
          · have := Wx.lt HX5.out h7; omega
      · exact HST5.out.belowEnd ((bR _ _).grown hg6 (by omega) (fun b e => (World.ownsRow.lt HZ5.out b e).1)) (Nat.le_refl _)
     case measure => simp [intOf]; omega
  · have hjD : j = D.length := by omega
    have hjn : n3 = j := by rw [HN3.out, hjD]
    rw [hjD, List.take_length] at hz hx4
    have hids : (L.map Tm.id).filter (fun y => decide (y ∉ D.map Tm.id)) = (L.filter (fun t => decide (N' < t.at_))).map Tm.id := by
     rw [List.filter_map]
     congr 1
     refine List.filter_congr (fun t ht => ?_)
     have h9 : t.id ∈ D.map Tm.id ↔ ¬ N' < t.at_ := by
      constructor
      · intro h8; obtain ⟨u, hu, e⟩ := List.mem_map.1 h8; have h7 := (HADV.out.2 u).1 hu; have := HR.out.uni u t h7.1 ht e; subst this; omega
      · intro h8; exact List.mem_map.2 ⟨t, (HADV.out.2 t).2 ⟨ht, by omega⟩, rfl⟩
     simp only [Function.comp, h9, Decidable.not_not]
    rw [hids] at hx4; have HX4 : Hid _ := hx4; have HZ : Hid _ := hz; have HST4 : Hid _ := hst4; clear hx4 hz hst4 hids hdis hrow; go_wp2; go_ret; refine ⟨_, D, V2, rfl, HADV.out, HZ.out, ⟨F2, X2, HX4.out, HR2.out.congr (fun t => ?_), ?_⟩, HST4.out⟩
    · rw [List.mem_filter]; simp
    · have h9 := HO.out.sub (fun t => decide (N' < t.at_)); refine ⟨hmx, h9.nd, h9.ord, h9.le, h9.rg, fun t ht => ?_⟩; obtain ⟨h8, h7⟩ := List.mem_filter.1 ht; have h6 := HO.out.ats t h8; refine ⟨by simpa using h7, ?_⟩; rcases h6.2 with h5 | h5
      · exact .inl h5
      · omega
end
end Go.Proofs.YtpakkpahcpgnnaaGreatDoor.Wh
