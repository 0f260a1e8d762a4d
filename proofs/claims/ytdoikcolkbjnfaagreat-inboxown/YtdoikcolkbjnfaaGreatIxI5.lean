import Derived.Test.YtdoikcolkbjnfaaGreatIxR
import Derived.Test.YtdoikcolkbjnfaaGreatCA
import Derived.Test.YtdoikcolkbjnfaaGreatGShelf2
import Derived.Shelf.SlSortCmp.NoneTotal
import Derived.Test.YtdoikcolkbjnfaaGreatIxI3
namespace Go.Proofs.YtdoikcolkbjnfaaGreat
set_option linter.unusedVariables false
set_option linter.unusedSimpArgs false
open Go.RowKit Go.Shelf Go.Sort
/-- rows of sessions -/
abbrev KSs : Kd Ss := { t := tSs, ts := 47, k := 2, by_ := 16, f := fun s => [.int .u64 (s.1 : Int), .int .u64 (s.2 : Int)], z := .agg #[.int .u64 0, .int .u64 0], hk := fun _ => rfl, h1 := (fun d u hu => by simp at hu; rcases hu with rfl | rfl <;> rfl), hpos := by decide, ht := Tryz.underlying47, hi := by kernel_rfl, hz := rfl }
abbrev Sx := {s : Ss // inS s}
abbrev encS (x : Sx) : List Value := [.int .u64 (x.1.1 : Int), .int .u64 (x.1.2 : Int)]
abbrev valS (l : List Sx) : List Ss := l.map (fun x => x.1)
section
variable (tf : Ss → Nat)
def cmpS (x y : Sx) : Int := Lib.compareInt (tf x.1 : Int) (tf y.1 : Int)
theorem cmpS_lt (x y : Sx) : ltOf (cmpS tf) x y = true ↔ tf x.1 < tf y.1 := by
  unfold ltOf cmpS Lib.compareInt
  by_cases h1 : tf x.1 < tf y.1
  · simp [h1]
  · by_cases h2 : tf y.1 < tf x.1
    · simp [h1, h2]
    · simp [h1, h2]
theorem swoS : SWO (ltOf (cmpS tf)) := {
  irrefl := fun x => by
    cases h : ltOf (cmpS tf) x x
    · rfl
    · have := (cmpS_lt tf x x).1 h; omega
  trans := fun x y z h1 h2 => by
    rw [cmpS_lt] at *
    omega
  ntrans := fun x y z h1 h2 => by
    have a1 : ¬ tf x.1 < tf y.1 := fun h => by rw [(cmpS_lt tf x y).2 h] at h1; cases h1
    have a2 : ¬ tf y.1 < tf z.1 := fun h => by rw [(cmpS_lt tf y z).2 h] at h2; cases h2
    cases h : ltOf (cmpS tf) x z
    · rfl
    · have a3 := (cmpS_lt tf x z).1 h
      omega }
end
theorem flatS_get (xs : List Ss) (j : Nat) (h : j < xs.length) : (KSs.flat xs)[j * 2]? = some (.int .u64 (xs[j].1 : Int)) ∧ (KSs.flat xs)[j * 2 + 1]? = some (.int .u64 (xs[j].2 : Int)) := by
  have h0 := Kd.flat_get (K := KSs) xs j 0 h (by decide)
  have h1 := Kd.flat_get (K := KSs) xs j 1 h (by decide)
  exact ⟨h0, h1⟩
theorem flatS_len (xs : List Ss) : (KSs.flat xs).length = xs.length * 2 := Kd.flat_len (K := KSs) xs
theorem take_putS (cur : Array Value) (ys : List Ss) (h : ys.length * 2 ≤ cur.size) : (putCells id 0 (KSs.flat ys).toArray cur).toList.take (ys.length * 2) = KSs.flat ys := by
  apply List.ext_getElem?
  intro j
  by_cases hj : j < ys.length * 2
  · have hj' : j < (KSs.flat ys).length := by rw [flatS_len]; exact hj
    rw [List.getElem?_take_of_lt hj, Array.getElem?_toList]
    simp [putCells, hj', show j < cur.size by omega]
  · rw [List.getElem?_take_eq_none (by omega), List.getElem?_eq_none (by rw [flatS_len]; omega)]
section
variable [Inhabited Sx]
theorem flatK_ss (xs : List Sx) : flatK encS 2 xs.toArray = (KSs.flat (valS xs)).toArray := by
  refine ext_get! (by simp [flatS_len]) fun t ht => ?_
  have ht' : t < xs.length * 2 := by simpa using ht
  rw [get_flatK _ _ _ t (by simpa using ht')]
  have hq : t / 2 < xs.length := by omega
  obtain ⟨h1, h2⟩ := flatS_get (valS xs) (t / 2) (by simpa using hq)
  have hx : xs.toArray[t / 2]! = xs[t / 2] := by rw [getElem!_pos _ _ (by simpa using hq)]; simp
  rw [hx, getElem!_pos (KSs.flat (valS xs)).toArray t (by simp [flatS_len]; omega)]
  rcases Nat.mod_two_eq_zero_or_one t with h | h
  · rw [h]
    rw [show t / 2 * 2 = t from by omega] at h1
    obtain ⟨_, h3⟩ := List.getElem?_eq_some_iff.1 h1
    simp [h3]
  · rw [h]
    rw [show t / 2 * 2 + 1 = t from by omega] at h2
    obtain ⟨_, h3⟩ := List.getElem?_eq_some_iff.1 h2
    simp [h3]
theorem holdsS {w : World} {g : Nat} {cur : Array Value} {e : TypeId} {xs : List Sx} (hb : w.heap[g]? = some (.cells cur e (0, 0))) (ht : cur.toList.take (xs.length * 2) = KSs.flat (valS xs)) : HoldsK encS 2 w g 0 xs.toArray := by
  unfold HoldsK
  rw [flatK_ss]
  intro j hj
  have hj' : j < (KSs.flat (valS xs)).length := by simpa using hj
  have hj2 : j < xs.length * 2 := by rw [flatS_len] at hj'; simpa using hj'
  refine ⟨?_, by simp [World.frozen?, hb]⟩
  have h1 : (cur.toList.take (xs.length * 2))[j]? = (KSs.flat (valS xs))[j]? := by rw [ht]
  rw [List.getElem?_take_of_lt hj2] at h1
  simp only [World.cell?, hb, Nat.zero_add]
  simp only [Option.isSome_none, Bool.false_eq_true, if_false]
  rw [← Array.getElem?_toList, h1]
  simp [hj']
theorem heap_sortS {w : World} {g n : Nat} {os : Array Obj} {cur : Array Value} {e : TypeId} {fr : Nat × Nat} (d : Array Sx) (hb : w.heap[g]? = some (.cells cur e fr)) :
    (sortWorldK encS 2 w g 0 n d os).heap[g]? = some (.cells (putCells id 0 (flatK encS 2 d) cur) e fr) := by
  have hg : g < w.heap.size := (Array.getElem?_eq_some_iff.1 hb).1
  unfold sortWorldK putRowK
  rw [heap_grow_old _ _ (by simpa using hg)]
  simp [putRow, mapBlock, Sort.ahead, Array.getElem?_modify, hb, onCells]
theorem grown_sortS {w : World} {g n : Nat} {os : Array Obj} (d : Array Sx) : w.grownBy (sortWorldK encS 2 w g 0 n d os) (some g) := by
  unfold sortWorldK putRowK
  refine ⟨rfl, rfl, rfl, by simp, fun k hk hne => ?_⟩
  rw [heap_grow_old _ _ (by simpa using hk)]
  have : g ≠ k := fun e => hne (by rw [e])
  simp [putRow, mapBlock, Sort.ahead, Array.getElem?_modify, this]
theorem ownS_sorted {w : World} {B g cap n : Nat} {os : Array Obj} {cur : Array Value} {xs ys : List Sx} (hl : ys.length = xs.length) (hB : B ≤ g) (hb : w.heap[g]? = some (.cells cur tSs (0, 0)))
    (h1 : xs.length ≤ cap) (h2 : cap ≤ maxLen) (h3 : cur.size = cap * 2) : OwnG KSs (sortWorldK encS 2 w g 0 n ys.toArray os) B (.slice (some ⟨g, 0, none⟩) xs.length cap) (valS ys) := by
  refine ⟨flatS_len _, .inr ⟨g, cap, _, by simp [hl], hB, heap_sortS _ hb, by simp; omega, h2, by simp [putCells, h3], ?_⟩⟩
  rw [flatK_ss]
  exact take_putS cur (valS ys) (by simp; omega)
theorem perm_of_inS {d d' : Array Sx} (h : PermIn 0 d.size d d') : d'.toList.Perm d.toList := by
  obtain ⟨h1, -, h3⟩ := h
  have e : d'.extract 0 d.size = d' := by rw [← h1]; simp
  rw [e] at h3
  simpa using h3
theorem pair_of_sortedS {tf : Ss → Nat} {d : Array Sx} {n : Nat} (hn : n = d.size) (h : SortedIn (ltOf (cmpS tf)) 0 n d) : d.toList.Pairwise (fun x y => ¬ tf y.1 < tf x.1) := by
  rw [List.pairwise_iff_getElem]
  intro i j hi hj hij
  have h9 := h i j (Nat.zero_le _) hij (by rw [hn]; simpa using hj)
  rw [getElem!_pos d i (by simpa using hi), getElem!_pos d j (by simpa using hj)] at h9
  intro h8
  have h7 := (cmpS_lt tf _ _).2 h8
  simp at h7
  rw [h7] at h9
  cases h9
end
section
set_option maxRecDepth 20000
set_option maxHeartbeats 1600000
theorem nanS_t (x : Int) (w : World) : Calls Tryz.prog 90 #[.int .u64 x] w fun e w' => e = .returned (.bool false) ∧ w' = w := by
  go_enter Tryz.func90, Tryz.ntmps90
  go_wp2
  go_ret
  exact ⟨by simp, rfl⟩
theorem cmpS_t (x y : Int) (w : World) : Calls Tryz.prog 72 #[.int .u64 x, .int .u64 y] w fun e w' => e = .returned (.int .i64 (Lib.compareInt x y)) ∧ w' = w := by
  have HR : Hid (Lib.compareInt x y = if x < y then -1 else if x > y then 1 else 0) := rfl
  obtain ⟨r, hr⟩ : ∃ r, r = Lib.compareInt x y := ⟨_, rfl⟩
  rw [← hr]
  have HQ : Hid (r = if x < y then -1 else if x > y then 1 else 0) := by unfold Hid; rw [hr]; exact HR.out
  clear hr HR
  by_cases h1 : x < y
  · have h9 : Hid (r = -1) := by have := HQ.out; unfold Hid; rw [if_pos h1] at this; exact this
    clear HQ
    go_enter Tryz.func72, Tryz.ntmps72
    go_wp2_with (go_at_call 90; refine (nanS_t _ _).mono ?_; rintro e w' ⟨rfl, rfl⟩)
    go_ret
    rw [h9.out]
    exact ⟨rfl, rfl⟩
  · by_cases h2 : y < x
    · have h9 : Hid (r = 1) := by have := HQ.out; unfold Hid; rw [if_neg h1, if_pos h2] at this; exact this
      clear HQ
      go_enter Tryz.func72, Tryz.ntmps72
      go_wp2_with (go_at_call 90; refine (nanS_t _ _).mono ?_; rintro e w' ⟨rfl, rfl⟩)
      go_ret
      rw [h9.out]
      exact ⟨rfl, rfl⟩
    · have h9 : Hid (r = 0) := by have := HQ.out; unfold Hid; rw [if_neg h1, if_neg h2] at this; exact this
      clear HQ
      go_enter Tryz.func72, Tryz.ntmps72
      go_wp2_with (go_at_call 90; refine (nanS_t _ _).mono ?_; rintro e w' ⟨rfl, rfl⟩)
      go_ret
      rw [h9.out]
      exact ⟨rfl, rfl⟩
end
theorem rdS_new (u : World) (s : Ss) (n : Nat) (hn : n = u.heap.size) : RdG KSs (u.alloc (.cells #[.int .u64 (s.1 : Int), .int .u64 (s.2 : Int)] tSs)) (some ⟨n, 0, none⟩) [s] := by
  subst hn
  have h9 := heap_alloc_new u (.cells #[.int .u64 (s.1 : Int), .int .u64 (s.2 : Int)] tSs)
  intro j hj
  have hj0 : j = 0 := by simp at hj; omega
  subst hj0
  refine ⟨_, _, rfl, fun q v hq => ?_, _, _, h9⟩
  rw [cell_of_row _ _ _ _ _ _ h9]
  match q, hq with
  | 0, hq => exact hq
  | 1, hq => exact hq
  | q + 2, hq => simp at hq
theorem inS0 : inS (0, 0) := ⟨by decide, by decide⟩
section
set_option maxRecDepth 20000
set_option maxHeartbeats 1600000
theorem sortS_s (F : Nat) (cb : Array Value) (tf : Ss → Nat) (B g cap : Nat) (xs : List Sx) (w : World) (h : OwnG KSs w B (.slice (some ⟨g, 0, none⟩) xs.length cap) (valS xs)) (hl : xs.length ≤ 8192)
    (eg : ∀ args w, (callFunc F args).run Tryz.prog w = .ok (.enter F args) w) (hc : ∀ u, w.grownBy u (some g) → ∀ x y : Sx, Calls Tryz.prog F (#[.agg (encS x).toArray, .agg (encS y).toArray] ++ cb) u fun e w' => e = .returned (.int .i64 (cmpS tf x y)) ∧ ∃ q os', w' = grow (u.drewN q) os') :
    Calls Tryz.prog 70 #[.slice (some ⟨g, 0, none⟩) xs.length cap, .func (.func F) #[] cb] w fun e w' => e = .returned (.tuple #[]) ∧ ∃ ys : List Sx, ys.Perm xs ∧ ys.Pairwise (fun x y => ¬ tf y.1 < tf x.1) ∧ OwnG KSs w' B (.slice (some ⟨g, 0, none⟩) xs.length cap) (valS ys) ∧ w.grownBy w' (some g) := by
  haveI : Inhabited Sx := ⟨⟨(0, 0), inS0⟩⟩
  rcases h.2 with ⟨h0, _⟩ | ⟨g', cap', cur, hv, hB, hg, hn, hm, hs, ht⟩
  · cases h0
  · simp only [Value.slice.injEq, Option.some.injEq, Addr.mk.injEq] at hv
    obtain ⟨⟨rfl, -⟩, -, rfl⟩ := hv
    rw [List.length_map] at hn ht
    have hcon := AnyQ.slices_SortFunc Tryz.sortS 2 Tryz.isAgg74 Tryz.sizeOf74 encS (fun _ => rfl) (fun x v hv => by simp at hv; rcases hv with rfl | rfl <;> rfl) (cmpS tf) (swoS tf) F cb g 0 cap xs.toArray w eg (fun m os dk _ x y => hc _ (grown_sortS dk) x y) (holdsS hg ht) (Array.getElem?_eq_some_iff.1 hg).1 (by simp; omega)
    change Calls Tryz.prog 70 #[.slice (some ⟨g, 0, none⟩) xs.length cap, _] w _ at hcon
    refine hcon.mono ?_
    rintro e w' ⟨rfl, d', n, os, hp, hso, rfl⟩
    have hpp : d'.toList.Perm xs := by simpa using perm_of_inS hp
    refine ⟨rfl, d'.toList, hpp, pair_of_sortedS (by rw [hp.1]) hso, ?_, grown_sortS _⟩
    have e9 : d' = d'.toList.toArray := by simp
    rw [e9]
    simp only [List.toList_toArray]
    exact ownS_sorted (hpp.length_eq) hB hg hn hm hs
end
theorem sorted_ss (tf : Ss → Nat) : ∀ {xs ys : List Ss}, xs.Pairwise (fun x y => tf x < tf y) → ys.Pairwise (fun x y => tf x < tf y) → (∀ t, t ∈ xs ↔ t ∈ ys) → xs = ys
  | [], [], _, _, _ => rfl
  | [], y :: ys, _, _, h => by have := (h y).2 (by simp); cases this
  | x :: xs, [], _, _, h => by have := (h x).1 (by simp); cases this
  | x :: xs, y :: ys, h1, h2, h => by
    obtain ⟨a1, a2⟩ := List.pairwise_cons.1 h1
    obtain ⟨b1, b2⟩ := List.pairwise_cons.1 h2
    have e : x = y := by
      rcases List.mem_cons.1 ((h x).1 (by simp)) with e | e
      · exact e
      · rcases List.mem_cons.1 ((h y).2 (by simp)) with e' | e'
        · exact e'.symm
        · have := b1 x e; have := a1 y e'; omega
    subst e
    congr 1
    refine sorted_ss tf a2 b2 (fun t => ⟨fun ht => ?_, fun ht => ?_⟩)
    · rcases List.mem_cons.1 ((h t).1 (by simp [ht])) with e | e
      · subst e; have := a1 t ht; omega
      · exact e
    · rcases List.mem_cons.1 ((h t).2 (by simp [ht])) with e | e
      · subst e; have := b1 t ht; omega
      · exact e
/-- a row of the same, in the order of its touches, is the row in its order -/
theorem sort_is {tf : Ss → Nat} {xs ys : List Ss} (hx : xs.Pairwise (fun x y => tf x < tf y)) (hn : ys.Nodup) (hm : ∀ t, t ∈ ys ↔ t ∈ xs) (hy : ys.Pairwise (fun x y => ¬ tf y < tf x)) : ys = xs := by
  refine sorted_ss tf ?_ hx hm
  rw [List.pairwise_iff_getElem] at hy ⊢
  intro i j hi hj hij
  have h1 := hy i j hi hj hij
  have h2 : ys[i] ≠ ys[j] := List.pairwise_iff_getElem.1 hn i j hi hj hij
  obtain ⟨a, ha, ea⟩ := List.mem_iff_getElem.1 ((hm _).1 (List.getElem_mem hi))
  obtain ⟨b, hb, eb⟩ := List.mem_iff_getElem.1 ((hm _).1 (List.getElem_mem hj))
  have hp := List.pairwise_iff_getElem.1 hx
  rcases Nat.lt_trichotomy a b with h | h | h
  · have := hp a b ha hb h; rw [ea, eb] at this; exact this
  · subst h; exact absurd (ea.symm.trans eb) h2
  · have := hp b a hb ha h; rw [ea, eb] at this; omega
end Go.Proofs.YtdoikcolkbjnfaaGreat
namespace Go.Proofs.YtdoikcolkbjnfaaGreat
set_option linter.unusedVariables false
set_option linter.unusedSimpArgs false
open Go.RowKit Go.Maps
section
variable {w w' : World} {p o m T : Nat} {E : List (Ss × (Int × Nat))}
theorem putI_t (ty : TypeId) (C : Array Value) (hp : w.heap[p]? = some (.cells C ty (0, 0))) (most : Nat) (c0 : C[o]? = some (.int .i64 (most : Int))) (c1 : C[o + 1]? = some (.int .u64 (T : Int))) (c2 : C[o + 2]? = some (.map (some m)))
    (h : RowM w m T (mp fI E)) {s : Ss} (hs : inS s) (c : Int) (hTb : T < 9223372036854775807) (h1 : 1 ≤ most) (hm : most ≤ 8192) (hL : E.length ≤ most) :
    Calls Tryz.prog 37 #[.pointer (some ⟨p, o, none⟩), sv s, (.int .i64 c)] w fun e w' => e = .returned (.tuple #[]) ∧ RowM w' m (T + 1) (mp fI (pt most E s (c, T + 1))) ∧ w'.heap[p]? = some (.cells (C.setIfInBounds (o + 1) (.int .u64 ((T + 1 : Nat) : Int))) ty (0, 0)) ∧ Chg (fun b => b = p ∨ b = m) w w' := by
  cases hl : lk E s with
  | some a =>
    have e : pt most E s (c, T + 1) = rm E s ++ [(s, (c, T + 1))] := by unfold pt; rw [if_pos (mem_ks (lk_mem hl))]
    rw [e]
    exact putI_in ty C hp most c0 c1 c2 h hs c (c' := a.1) (t := a.2) hl hTb (by omega)
  | none =>
    have hn := lk_none.1 hl
    by_cases hf : most ≤ E.length
    · cases E with
      | nil => simp at hf; omega
      | cons x r =>
        have e : pt most (x :: r) s (c, T + 1) = r ++ [(s, (c, T + 1))] := by unfold pt; rw [if_neg hn, if_pos hf]; rfl
        rw [e]
        exact putI_full ty C hp most c0 c1 c2 h hs c hl hf x r rfl hTb (by omega)
    · have e : pt most E s (c, T + 1) = rm E s ++ [(s, (c, T + 1))] := by unfold pt; rw [if_neg hn, if_neg hf, rm_not hn]
      rw [e]
      exact putI_new ty C hp most c0 c1 c2 h hs c hl (by omega) hTb (by omega)
theorem clearI {es : Array MapEntry} {cl : Nat} (h : w.heap[m]? = some (.map es cl)) (ty : TypeId) : (Builtin.clear_ #[tMI] ty #[.map (some m)]).run Tryz.prog w = .ok (.tuple #[]) (ChangeMaps.setBlock w m (.map #[] cl)) := by
  simp [Builtin.clear_, run_underlying Tryz.underlying81, MapKept.run_getObj_map h, MapKept.run_setObj_map _ h, Result.andThen, ChangeMaps.setBlock]
theorem blkI {es : Array MapEntry} {cl : Nat} (h : w.heap[m]? = some (.map es cl)) : (ChangeMaps.setBlock w m (.map #[] cl)).heap[m]? = some (.map #[] cl) ∧ w.grownBy (ChangeMaps.setBlock w m (.map #[] cl)) (some m) := by
  have hm := (Array.getElem?_eq_some_iff.1 h).1
  refine ⟨by simp [ChangeMaps.setBlock, hm], ⟨rfl, rfl, rfl, by simp [ChangeMaps.setBlock], fun k hk hn => ?_⟩⟩
  have : m ≠ k := fun e => hn (by rw [e])
  simp [ChangeMaps.setBlock, this]
set_option maxRecDepth 20000
set_option maxHeartbeats 1600000
theorem emptyI_t (hc : w.cell? ⟨p, o + 2, none⟩ = some (.map (some m))) (h : RowM w m T (mp fI E)) :
    Calls Tryz.prog 61 #[.pointer (some ⟨p, o, none⟩)] w fun e w' => e = .returned (.tuple #[]) ∧ (∀ T', RowM w' m T' []) ∧ w.grownBy w' (some m) := by
  obtain ⟨es, cl, hes⟩ := h.at_
  obtain ⟨hm4, hg4⟩ := blkI hes
  have hclr := clearI hes
  obtain ⟨w4, hw4⟩ : ∃ w4 : World, w4 = ChangeMaps.setBlock w m (.map #[] cl) := ⟨_, rfl⟩
  rw [← hw4] at hm4 hg4 hclr
  clear hw4 hes h
  have HM : Hid _ := hm4
  have HG : Hid _ := hg4
  clear hm4 hg4
  go_enter Tryz.func61, Tryz.ntmps61
  go_wp2
  go_end0
  exact ⟨rfl, fun T' => RowM.nil HM.out T', HG.out⟩
theorem newRowI_t (w : World) (n : Nat) : Calls Tryz.prog 32 #[.int .i64 (n : Int)] w fun e w' => ∃ m, e = .returned (.agg #[.int .i64 (n : Int), .int .u64 0, .map (some m)]) ∧ RowM w' m 0 [] ∧ w.heap.size ≤ m ∧ Below w.heap.size w w' := by
  have hmm := @run_makeMap Tryz.prog
  go_enter Tryz.func32, Tryz.ntmps32
  go_wp2
  refine bodyPost_ret (v := .agg #[.int .i64 (n : Int), .int .u64 0, .map (some (w.heap.size + 1))]) (by simp [results, Tryz.results32, go_sem]) rfl ⟨w.heap.size + 1, rfl, RowM.nil (cl := 0) ?_ 0, by omega, al (al (Below.refl _ _) _) _⟩
  have h9 := heap_alloc_new (w.alloc (Obj.cells #[.int .i64 (n : Int), .int .u64 0, .map (some (w.heap.size + 1))] 83)) (Obj.map #[] 0)
  rw [World.size_alloc] at h9
  exact h9
theorem getVI (h : RowM w m T (mp fI E)) (s : Ss) : ∃ v : Value, ∀ u : World, RowM u m T (mp fI E) → inS s → (Instr.lookup tMI (.map (some m)) (.agg #[.int .u64 (s.1 : Int), .int .u64 (s.2 : Int)]) false).run Tryz.prog u = .ok (.agg #[v, .int .u64 (((match lk E s with | some a => a.2 | none => 0) : Nat) : Int)]) u := by
  cases hl : lk E s with
  | some a =>
    refine ⟨(fI a).1, fun u hu hs => ?_⟩
    have h9 := hu.get undI zerI hs
    rw [lk_mp, hl] at h9
    exact h9
  | none =>
    refine ⟨(.int .i64 0), fun u hu hs => ?_⟩
    have h9 := hu.get undI zerI hs
    rw [lk_mp, hl] at h9
    exact h9
theorem fldI (v : Value) (t : Int) (u : World) : (Instr.field tEI (.agg #[v, .int .u64 t]) 1).run Tryz.prog u = .ok (.int .u64 t) u := by first | kernel_rfl | (go_simp; done)
/-- when a session was touched -/
def tcI (E : List (Ss × (Int × Nat))) (s : Ss) : Nat := match lk E s with | some a => a.2 | none => 0
theorem tcI_so (hn : (ks E).Nodup) (hs : E.Pairwise (fun a b => a.2.2 < b.2.2)) : (ks E).Pairwise (fun x y => tcI E x < tcI E y) := by
  have h1 : ∀ x, x ∈ E → tcI E x.1 = x.2.2 := fun x hx => by unfold tcI; rw [lk_of hn hx]
  unfold ks
  rw [List.pairwise_map]
  exact hs.imp_of_mem (fun {a b} ha hb h => by rw [h1 a ha, h1 b hb]; exact h)
theorem cloI_t (B : Nat) (hB : w.cell? ⟨B, 0, none⟩ = some (.pointer (some ⟨p, o, none⟩))) (hc : w.cell? ⟨p, o + 2, none⟩ = some (.map (some m))) (h : RowM w m T (mp fI E)) (x y : Sx) :
    Calls Tryz.prog 80 #[.agg (encS x).toArray, .agg (encS y).toArray, .pointer (some ⟨B, 0, none⟩)] w fun e w' => e = .returned (.int .i64 (cmpS (tcI E) x y)) ∧ ∃ q os', w' = Sort.grow (w.drewN q) os' := by
  obtain ⟨v1, hv1⟩ := getVI h x.1
  obtain ⟨v2, hv2⟩ := getVI h y.1
  obtain ⟨⟨x1, x2⟩, hx⟩ := x
  obtain ⟨⟨y1, y2⟩, hy⟩ := y
  have HCM : Hid (∀ u : World, Calls _ _ _ u _) := fun u => cmpS_t (tcI E (x1, x2) : Int) (tcI E (y1, y2) : Int) u
  have hR : cmpS (tcI E) ⟨(x1, x2), hx⟩ ⟨(y1, y2), hy⟩ = Lib.compareInt (tcI E (x1, x2) : Int) (tcI E (y1, y2) : Int) := rfl
  rw [hR]
  generalize Lib.compareInt (tcI E (x1, x2) : Int) (tcI E (y1, y2) : Int) = r1 at HCM ⊢
  obtain ⟨w2, hw2⟩ : ∃ w2, w2 = (w.alloc (Obj.cells #[.int .u64 (x1 : Int), .int .u64 (x2 : Int)] tSs)).alloc (Obj.cells #[.int .u64 (y1 : Int), .int .u64 (y2 : Int)] tSs) := ⟨_, rfl⟩
  obtain ⟨P, hP⟩ : ∃ P, P = w.heap.size := ⟨_, rfl⟩
  have hA : w2.heap[P]? = some (.cells #[.int .u64 (x1 : Int), .int .u64 (x2 : Int)] tSs (0, 0)) := by
    rw [hw2, hP]
    exact (Below.heap_alloc (w.alloc _) _ _ (by simp)).trans (heap_alloc_new w _)
  have hBB : w2.heap[P + 1]? = some (.cells #[.int .u64 (y1 : Int), .int .u64 (y2 : Int)] tSs (0, 0)) := by
    rw [hw2, hP]
    have h9 := heap_alloc_new (w.alloc (Obj.cells #[.int .u64 (x1 : Int), .int .u64 (x2 : Int)] tSs)) (Obj.cells #[.int .u64 (y1 : Int), .int .u64 (y2 : Int)] tSs)
    rw [World.size_alloc] at h9
    exact h9
  have hb2 : Below w.heap.size w w2 := by rw [hw2]; exact al (al (Below.refl _ _) _) _
  have hS : ∀ u, Below w2.heap.size w2 u → u.cell? ⟨P, 0, none⟩ = some (.int .u64 (x1 : Int)) ∧ u.cell? ⟨P, 1, none⟩ = some (.int .u64 (x2 : Int)) ∧ u.cell? ⟨P + 1, 0, none⟩ = some (.int .u64 (y1 : Int)) ∧ u.cell? ⟨P + 1, 1, none⟩ = some (.int .u64 (y2 : Int)) ∧ u.cell? ⟨B, 0, none⟩ = some (.pointer (some ⟨p, o, none⟩)) ∧ u.cell? ⟨p, o + 2, none⟩ = some (.map (some m)) ∧ (Instr.lookup tMI (.map (some m)) (.agg #[.int .u64 (x1 : Int), .int .u64 (x2 : Int)]) false).run Tryz.prog u = .ok (.agg #[v1, .int .u64 (tcI E (x1, x2) : Int)]) u ∧ (Instr.lookup tMI (.map (some m)) (.agg #[.int .u64 (y1 : Int), .int .u64 (y2 : Int)]) false).run Tryz.prog u = .ok (.agg #[v2, .int .u64 (tcI E (y1, y2) : Int)]) u := fun u hu => by
    have a1 := (hu.block P (Array.getElem?_eq_some_iff.1 hA).1).trans hA
    have a2 := (hu.block (P + 1) (Array.getElem?_eq_some_iff.1 hBB).1).trans hBB
    have hb := below_next hb2 hu
    refine ⟨by rw [cell_of_row _ _ _ _ _ _ a1]; rfl, by rw [cell_of_row _ _ _ _ _ _ a1]; rfl, by rw [cell_of_row _ _ _ _ _ _ a2]; rfl, by rw [cell_of_row _ _ _ _ _ _ a2]; rfl, (hb.cell (World.block_lt_of_cell? w _ hB)).trans hB, (hb.cell (World.block_lt_of_cell? w _ hc)).trans hc, hv1 u (h.below hb) hx, hv2 u (h.below hb) hy⟩
  have HW2 : Hid (w2 = _) := hw2
  have HP : Hid (P = w.heap.size) := hP
  obtain ⟨t1, ht1⟩ : ∃ t1 : Nat, t1 = tcI E (x1, x2) := ⟨_, rfl⟩
  obtain ⟨t2, ht2⟩ : ∃ t2 : Nat, t2 = tcI E (y1, y2) := ⟨_, rfl⟩
  rw [← ht1, ← ht2] at hS HCM
  clear h hv1 hv2 hR hB hc hA hBB hb2 hw2 hP ht1 ht2
  go_enter Tryz.func80, Tryz.ntmps80
  go_wp2
  rw [← HW2.out, ← HP.out]
  have hfl := fldI
  refine wp_region_noPanic ?_
  refine wp_region_held_drew (S := (fun u => Below w2.heap.size w2 u)) (by kernel_rfl) (by first | exact Below.refl _ _ | exact (Below.refl _ _).drew | assumption) (fun hHeld => ?_)
  refine tz (i := 0) 6 rfl rfl hHeld ?_
  simp only [pS]
  refine tz (i := 1) 7 rfl rfl hHeld ?_
  simp only [pS]
  refine tz (i := 2) 8 rfl rfl hHeld ?_
  simp only [pS]
  refine tz (i := 3) 9 rfl rfl hHeld ?_
  simp only [pS]
  refine tz (i := 4) 10 rfl rfl hHeld ?_
  simp only [pS]
  refine tz (i := 5) 11 rfl rfl hHeld ?_
  simp only [pS]
  refine tz (i := 6) 12 rfl rfl hHeld ?_
  simp only [pS]
  refine tz (i := 7) 13 rfl rfl hHeld ?_
  simp only [pS]
  refine tz (i := 8) 14 rfl rfl hHeld ?_
  simp only [pS]
  refine tz (i := 9) 15 rfl rfl hHeld ?_
  simp only [pS]
  refine tz (i := 10) 16 rfl rfl hHeld ?_
  simp only [pS]
  refine tz (i := 11) 17 rfl rfl hHeld ?_
  simp only [pS]
  refine tz (i := 12) 18 rfl rfl hHeld ?_
  simp only [pS]
  refine tz (i := 13) 19 rfl rfl hHeld ?_
  simp only [pS]
  refine run_at (i := 14) rfl (by kernel_rfl) (by rfl) (fun K hK => ?_)
  simp only [List.getElem_toArray, List.getElem_cons_zero, List.getElem_cons_succ]
  go_simp
  (go_at_call 72; refine Calls.mono (HCM.out _) ?_; rintro e u4 ⟨rfl, hq4⟩; have hq4 := hq4.symm; subst hq4)
  go_wp2_with fail
  refine hK.out _ _ (by first | exact Below.refl _ _ | exact (Below.refl _ _).drew | assumption) ?_
  clear hK K
  intro hHeld2
  clear hHeld
  have hHeld := hHeld2
  clear hHeld2
  try simp only [pS]
  refine tz (i := 15) 5 rfl rfl hHeld ?_
  simp only [pS]
  refine wpAnyH_done (by kernel_rfl) ?_ _
  refine NoPanic.normal ?_
  go_wp2
  go_ret
  exact ⟨rfl, 1, _, by
    rw [HW2.out]
    show ((w.drewN 1).alloc _).alloc _ = _
    rw [Sort.alloc_eq_grow, Sort.alloc_eq_grow, Sort.grow_grow]⟩
end
end Go.Proofs.YtdoikcolkbjnfaaGreat
namespace Go.Proofs.YtdoikcolkbjnfaaGreat
set_option linter.unusedVariables false
set_option linter.unusedSimpArgs false
open Go.RowKit Go.Maps Go.Shelf
section
variable {w w' : World} {p o m T : Nat} {E : List (Ss × (Int × Nat))}
set_option maxRecDepth 20000
set_option maxHeartbeats 1600000
theorem srtI_t (B Bx : Nat) (v : Value) (ds : List Ss) (hds : ∀ s, s ∈ ds → inS s) (h : OwnG KSs w B v ds) (hl : ds.length ≤ 8192) (hB : w.cell? ⟨Bx, 0, none⟩ = some (.pointer (some ⟨p, o, none⟩))) (hc : w.cell? ⟨p, o + 2, none⟩ = some (.map (some m))) (hr : RowM w m T (mp fI E)) (n1 : Bx < B) (n2 : p < B) (n3 : m < B) :
    Calls Tryz.prog 70 #[v, .func (.func 80) #[] #[.pointer (some ⟨Bx, 0, none⟩)]] w fun e w' => e = .returned (.tuple #[]) ∧ ∃ ys : List Ss, ys.Perm ds ∧ ys.Pairwise (fun x y => ¬ tcI E y < tcI E x) ∧ OwnG KSs w' B v ys ∧ w.grownBy w' v.ownBlock := by
  rcases h.2 with ⟨rfl, h0⟩ | ⟨g, cap, cur, rfl, hBg, r⟩
  · obtain rfl : ds = [] := List.eq_nil_of_length_eq_zero h0
    refine (AnyF.slices_SortFunc_none Tryz.sortS none 0 (.func (.func 80) #[] #[.pointer (some ⟨Bx, 0, none⟩)]) w).mono ?_
    rintro e w' ⟨rfl, rfl⟩
    exact ⟨rfl, [], .refl _, List.Pairwise.nil, h, World.grownBy.refl _ _⟩
  · have e1 : valS (ds.attachWith inS hds) = ds := List.attachWith_map_subtype_val hds
    have e2 : (ds.attachWith inS hds).length = ds.length := by simp
    have hcon := sortS_s 80 #[.pointer (some ⟨Bx, 0, none⟩)] (tcI E) B g cap (ds.attachWith inS hds) w (by rw [e1, e2]; exact h) (by rw [e2]; exact hl) (enters_of Tryz.func80 (by kernel_rfl) rfl)
      (fun u hu x y => cloI_t Bx (hu.cell hB (fun e => by have h9 : Bx = g := Option.some.inj e; omega)) (hu.cell hc (fun e => by have h9 : p = g := Option.some.inj e; omega)) (hr.kept (hu.block m hr.lt (fun e => by have := Option.some.inj e; omega))) x y)
    rw [e2] at hcon
    refine hcon.mono ?_
    rintro e w' ⟨rfl, ys, hp, hso, ho, hg⟩
    refine ⟨rfl, valS ys, ?_, List.pairwise_map.2 hso, ho, hg⟩
    have h9 : (valS ys).Perm (valS (ds.attachWith inS hds)) := hp.map (fun x : Sx => x.1)
    rw [e1] at h9
    exact h9
theorem sesI_t (hc : w.cell? ⟨p, o + 2, none⟩ = some (.map (some m))) (h : RowM w m T (mp fI E)) (hL : E.length ≤ 8192) :
    Calls Tryz.prog 53 #[.pointer (some ⟨p, o, none⟩)] w fun e w' => ∃ v, e = .returned v ∧ OwnG KSs w' w.heap.size v (ks E) ∧ Below w.heap.size w w' := by
  have hpl : p < w.heap.size := World.block_lt_of_cell? w _ hc
  have hml : m < w.heap.size := h.lt
  have HR : Hid _ := h
  obtain ⟨P, hP⟩ : ∃ P, P = w.heap.size := ⟨_, rfl⟩
  obtain ⟨w2, hw2⟩ : ∃ w2, w2 = w.alloc (.cells #[.pointer (some ⟨p, o, none⟩)] 126) := ⟨_, rfl⟩
  have hb2 : Below w.heap.size w w2 := by rw [hw2]; exact al (Below.refl _ _) _
  have hA : w2.heap[P]? = some (.cells #[.pointer (some ⟨p, o, none⟩)] 126 (0, 0)) := by
    rw [hw2, hP]
    exact heap_alloc_new w _
  have hS2 : w2.heap.size = P + 1 := by rw [hw2, hP]; simp
  have HW2 : Hid (w2 = _) := hw2
  have HRM : Hid (RowM w2 m T (mp fI E)) := h.below hb2
  have HP : Hid (P = w.heap.size) := hP
  clear h hP hw2
  go_enter Tryz.func53, Tryz.ntmps53
  go_wp2_with (at_range; refine wpn_range undI rfl _ rfl (T := T) (L := mp fI E) (by have h9 := HRM.out; rw [HW2.out] at h9; exact h9) rfl ?_; intro w3 hr3 hg3 hs3)
  go_frame
  rw [← HW2.out] at hr3 hg3 hs3 ⊢
  obtain ⟨R, hR⟩ : ∃ R, R = w2.heap.size := ⟨_, rfl⟩
  rw [← hR] at hr3 ⊢
  rw [← HP.out]
  have hb3 : Below w.heap.size w w3 := hb2.grown hg3 hb2.size (fun j hj => by cases hj)
  have hA3 : w3.heap[P]? = some (.cells #[.pointer (some ⟨p, o, none⟩)] 126 (0, 0)) := (hg3.block P (by omega) (by simp)).trans hA
  have HRP : Hid (R = P + 1) := by unfold Hid; omega
  have hs4 : P + 2 ≤ w3.heap.size := by omega
  have HC : Hid _ := hc
  clear hA hg3 hs3 hS2 hR hb2 hc
  go_loopw [3] (fun v wr => ∃ (ds : List Ss) (cnt : Nat), RngM wr m R T (mp fI E) ds cnt ∧ OwnG KSs wr (P + 2) v ds ∧ wr.heap[P]? = some (.cells #[.pointer (some ⟨p, o, none⟩)] 126 (0, 0)) ∧ Below w.heap.size w wr ∧ P + 2 ≤ wr.heap.size) (fun _ wr => wr.rangeLeft m R)
  case atStart => exact ⟨[], _, hr3, World.ownsRow_nil _ _ _ _, hA3, hb3, hs4⟩
  case round =>
    obtain ⟨ds, cnt, hrg, hown, hA, hbw, hsz⟩ := hrel
    clear hr3 hA3 hb3 hs4
    go_wp2_with (at_next; refine wpn_next rfl _ rfl hrg rfl ?_ ?_)
    · intro hd
      have hdE : ∀ s, s ∈ ds ↔ s ∈ ks E := fun s => by have := hd s.1 s.2; rw [ks_mp] at this; exact this
      have hcB : wr.cell? ⟨P, 0, none⟩ = some (.pointer (some ⟨p, o, none⟩)) := by rw [cell_of_row _ _ _ _ _ _ hA]; rfl
      have hcM : wr.cell? ⟨p, o + 2, none⟩ = some (.map (some m)) := (hbw.cell hpl).trans HC.out
      have hrw : RowM wr m T (mp fI E) := RowM.below HR.out hbw
      have hdl : ds.length ≤ 8192 := by have := hrg.sub; rw [len_mp] at this; omega
      have HSRT : Hid (Calls _ _ _ wr _) := srtI_t (P + 2) P u3 ds (fun s hs => hrg.rg s ((by rw [ks_mp]; exact (hdE s).1 hs))) hown hdl hcB hcM hrw (by omega) (by have := HP.out; omega) (by have := HP.out; omega)
      have HND : Hid _ := hrg.nd
      have HDE : Hid _ := hdE
      obtain ⟨av, cv, hvv, -⟩ : ∃ a c, u3 = .slice a ds.length c ∧ True := by
        rcases hown.2 with ⟨rfl, h0⟩ | ⟨g, cap, cur, rfl, -⟩
        · exact ⟨none, 0, by rw [h0], trivial⟩
        · exact ⟨_, _, rfl, trivial⟩
      have HBW : Hid _ := hbw
      have HSZ : Hid _ := hsz
      obtain ⟨N, hN⟩ : ∃ N, N = ds.length := ⟨_, rfl⟩
      rw [← hN] at hvv
      subst hvv
      have hlt3 : ∀ b, (Value.slice av N cv).ownBlock = some b → P + 2 ≤ b := fun b hb => (World.ownsRow.lt hown b hb).1
      have HLT3 : Hid _ := hlt3
      clear hd hdE hrg hown hA hcB hcM hrw hdl hbw hsz hN hlt3
      go_wp2_with fail
      refine Calls.mono HSRT.out ?_
      rintro e w6 ⟨rfl, ys, hpm, hso, hown6, hg6⟩
      have hyE : ys = ks E := sort_is (tcI_so (by have h9 := RowM.nd HR.out; rw [ks_mp] at h9; exact h9) (soI (RowM.so HR.out))) (hpm.nodup_iff.2 HND.out) (fun t => (hpm.mem_iff).trans (HDE.out t)) hso
      have HO6 : Hid (OwnG KSs w6 (P + 2) (.slice av N cv) (ks E)) := by rw [← hyE]; exact hown6
      have HG6 : Hid _ := hg6
      clear hpm hso hown6 hg6 hyE
      go_wp2
      go_ret
      exact ⟨_, rfl, OwnG.base HO6.out (by have := HP.out; omega), HBW.out.grown HG6.out HBW.out.size (fun j hj => by have := HLT3.out j hj; have := HP.out; omega)⟩
    · intro e9 n9 v9 t9 w5 cnt5 hx9 hnd hrg5 hlt5 hg5 hs5 hen
      obtain ⟨⟨⟨ye, yn⟩, ⟨yc, yt⟩⟩, hyE, hy⟩ := List.mem_map.1 hx9
      cases hy
      have hrp := HRP.out
      have hA5 := (hg5.block P (Array.getElem?_eq_some_iff.1 hA).1 (fun e => by have := Option.some.inj e; omega)).trans hA
      have hb5 : Below w.heap.size w w5 := hbw.grown hg5 hbw.size (fun j hj => by have := HP.out; have := Option.some.inj hj; omega)
      have hown5 : OwnG KSs w5 (P + 2) u3 ds := hown.kept (fun b hb => hg5.block b (hown.lt' hb).2 (fun e => by have := (hown.lt' hb).1; have := Option.some.inj e; omega))
      have hlt3 : ∀ b, u3.ownBlock = some b → P + 2 ≤ b := fun b hb => (hown.lt' hb).1
      have hdl : ds.length ≤ 8192 := by have := hrg.sub; rw [len_mp] at this; omega
      have HLT : Hid (cnt5 < wr.rangeLeft m R) := by unfold Hid; rw [hrg.left_eq]; exact hlt5
      have HA5 : Hid _ := hA5
      have HB5 : Hid _ := hb5
      have HRG5 : Hid _ := hrg5
      have HLT3 : Hid _ := hlt3
      have HO5 : Hid (OwnG KSs ((w5.alloc (.cells #[.int .u64 (e9 : Int), .int .u64 (n9 : Int)] tSs)).alloc (.cells #[.int .u64 (e9 : Int), .int .u64 (n9 : Int)] tSs)) (P + 2) u3 ds) := (OwnG.below hown5 (al (Below.refl _ _) _)).below (al (Below.refl _ _) _)
      have HMR : Hid (m ≠ R ∧ R < w5.heap.size) := by
        obtain ⟨D, left, h9, -⟩ := hrg5.ex
        exact ⟨fun e => h9.ne e.symm, h9.lt⟩
      have hs5' : P + 2 ≤ w5.heap.size := by omega
      clear hx9 hnd hrg5 hlt5 hg5 hs5 hrg hA hbw hA5 hb5 hown hown5 hlt3 hrp hsz
      go_wp2_with (at_builtin; refine wp_appG1 (K := KSs) rfl _ _ rfl (P + 2) u3 ds (e9, n9) ds.length rfl ⟨w5.heap.size + 1, 0, none⟩ 1 rfl HO5.out rfl (rdS_new _ (e9, n9) _ (by simp)) (by show (ds.length + 1) * 16 ≤ _; omega) (by simp only [maxLen]; omega) (by simp; omega) ?_; intro g7 c7 w7 hown7 hg7 hlie7)
      go_roundw
      case rel =>
        have hrg7 := ((HRG5.out.alloc (.cells #[.int .u64 (e9 : Int), .int .u64 (n9 : Int)] tSs)).alloc (.cells #[.int .u64 (e9 : Int), .int .u64 (n9 : Int)] tSs))
        refine ⟨_, _, RngM.kept hrg7 (hg7.block m hrg7.lt.1 (fun e => ?_)) (hg7.block R hrg7.lt.2 (fun e => ?_)), hown7, (hg7.block P ?_ (fun e => ?_)).trans ((Below.heap_alloc _ _ _ ?_).trans ((Below.heap_alloc _ _ _ ?_).trans HA5.out)), (al (al HB5.out _) _).grown hg7 ?_ (fun j hj => ?_), ?_⟩
        · have := HLT3.out m e.symm; have := HP.out; omega
        · have := HLT3.out R e.symm; have := HRP.out; omega
        · simp; omega
        · have := HLT3.out P e.symm; omega
        · simp; omega
        · omega
        · have := HB5.out.size; simp; omega
        · have := HLT3.out j hj; have := HP.out; omega
        · have := hg7.size; simp at this; omega
      case measure =>
        have hrg7 := ((HRG5.out.alloc (.cells #[.int .u64 (e9 : Int), .int .u64 (n9 : Int)] tSs)).alloc (.cells #[.int .u64 (e9 : Int), .int .u64 (n9 : Int)] tSs))
        have h9 := RngM.kept hrg7 (hg7.block m hrg7.lt.1 (fun e => by have := HLT3.out m e.symm; have := HP.out; omega)) (hg7.block R hrg7.lt.2 (fun e => by have := HLT3.out R e.symm; have := HRP.out; omega))
        rw [h9.left_eq]
        exact HLT.out
end
end Go.Proofs.YtdoikcolkbjnfaaGreat
