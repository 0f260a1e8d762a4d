import Derived.Test.YtiedgcanndgmoaaGreatDoorXD
import Derived.Test.YtiedgcanndgmoaaGreatDoorGShelf3
import Derived.Shelf.SlSortCmp.NoneTotal
import Derived.Test.YtiedgcanndgmoaaGreatDoorXS
namespace Go.Proofs.YtiedgcanndgmoaaGreatDoor
set_option linter.unusedVariables false
set_option linter.unusedSimpArgs false
open Go.RowKit Go.Shelf Go.Sort
/-- rows of numbers -/
abbrev KNr : Kd Nat := { t := 22, ts := 91, k := 1, by_ := 8, f := fun n => [.int .u64 (n : Int)], z := .int .u64 0, hk := fun _ => rfl, h1 := (fun d u hu => by simp at hu; subst hu; rfl), hpos := by decide, ht := Tryz.underlying91, hi := by kernel_rfl, hz := rfl }
def inN (n : Nat) : Prop := n < 18446744073709551616
abbrev Nx := {n : Nat // inN n}
abbrev encN (x : Nx) : Value := .int .u64 (x.1 : Int)
abbrev valN (l : List Nx) : List Nat := l.map (fun x => x.1)
section
variable (tf : Nat → Nat)
def cmpN (x y : Nx) : Int := Lib.compareInt (tf x.1 : Int) (tf y.1 : Int)
theorem cmpN_lt (x y : Nx) : ltOf (cmpN tf) x y = true ↔ tf x.1 < tf y.1 := by
  unfold ltOf cmpN Lib.compareInt
  by_cases h1 : tf x.1 < tf y.1
  · simp [h1]
  · by_cases h2 : tf y.1 < tf x.1
    · simp [h1, h2]
    · simp [h1, h2]
theorem swoN : SWO (ltOf (cmpN tf)) := {
  irrefl := fun x => by
    cases h : ltOf (cmpN tf) x x
    · rfl
    · have := (cmpN_lt tf x x).1 h; omega
  trans := fun x y z h1 h2 => by
    rw [cmpN_lt] at *
    omega
  ntrans := fun x y z h1 h2 => by
    have a1 : ¬ tf x.1 < tf y.1 := fun h => by rw [(cmpN_lt tf x y).2 h] at h1; cases h1
    have a2 : ¬ tf y.1 < tf z.1 := fun h => by rw [(cmpN_lt tf y z).2 h] at h2; cases h2
    cases h : ltOf (cmpN tf) x z
    · rfl
    · have a3 := (cmpN_lt tf x z).1 h
      omega }
end
theorem flatN_len (xs : List Nat) : (KNr.flat xs).length = xs.length := (Kd.flat_len (K := KNr) xs).trans (Nat.mul_one _)
theorem flatN_get (xs : List Nat) (j : Nat) (h : j < xs.length) : (KNr.flat xs)[j]? = some (.int .u64 (xs[j] : Int)) := by
  have h0 := Kd.flat_get (K := KNr) xs j 0 h (by decide)
  simp only [Nat.mul_one, Nat.add_zero] at h0
  exact h0
section
variable [Inhabited Nx]
theorem take_putN (cur : Array Value) (ys : List Nx) (h : ys.length ≤ cur.size) : (putCells encN 0 ys.toArray cur).toList.take ys.length = KNr.flat (valN ys) := by
  apply List.ext_getElem?
  intro j
  by_cases hj : j < ys.length
  · rw [List.getElem?_take_of_lt hj, Array.getElem?_toList, flatN_get (valN ys) j (by simpa using hj)]
    have h9 : ys.toArray[j]! = ys[j] := by rw [getElem!_pos _ _ (by simpa using hj)]; simp
    simp [putCells, hj, show j < cur.size by omega]
  · rw [List.getElem?_take_eq_none (by omega), List.getElem?_eq_none (by rw [flatN_len]; simp; omega)]
theorem holdsN {w : World} {g : Nat} {cur : Array Value} {e : TypeId} {xs : List Nx} (hb : w.heap[g]? = some (.cells cur e (0, 0))) (ht : cur.toList.take xs.length = KNr.flat (valN xs)) : Holds encN w g 0 xs.toArray := by
  intro j hj
  have hj' : j < xs.length := by simpa using hj
  refine ⟨?_, by simp [World.frozen?, hb]⟩
  have h1 : (cur.toList.take xs.length)[j]? = (KNr.flat (valN xs))[j]? := by rw [ht]
  rw [List.getElem?_take_of_lt hj', flatN_get (valN xs) j (by simpa using hj')] at h1
  simp only [World.cell?, hb, Nat.zero_add]
  simp only [Option.isSome_none, Bool.false_eq_true, if_false]
  rw [← Array.getElem?_toList, h1]
  simp [hj']
theorem heap_sortN {w : World} {g n : Nat} {os : Array Obj} {cur : Array Value} {e : TypeId} {fr : Nat × Nat} (d : Array Nx) (hb : w.heap[g]? = some (.cells cur e fr)) :
    (sortWorld encN w g 0 n d os).heap[g]? = some (.cells (putCells encN 0 d cur) e fr) := by
  have hg : g < w.heap.size := (Array.getElem?_eq_some_iff.1 hb).1
  unfold sortWorld
  rw [heap_grow_old _ _ (by simpa using hg)]
  simp [putRow, mapBlock, Sort.ahead, Array.getElem?_modify, hb, onCells]
theorem grown_sortN {w : World} {g n : Nat} {os : Array Obj} (d : Array Nx) : w.grownBy (sortWorld encN w g 0 n d os) (some g) := by
  unfold sortWorld
  refine ⟨rfl, rfl, rfl, by simp, fun k hk hne => ?_⟩
  rw [heap_grow_old _ _ (by simpa using hk)]
  have : g ≠ k := fun e => hne (by rw [e])
  simp [putRow, mapBlock, Sort.ahead, Array.getElem?_modify, this]
theorem ownN_sorted {w : World} {B g cap n : Nat} {os : Array Obj} {cur : Array Value} {xs ys : List Nx} (hl : ys.length = xs.length) (hB : B ≤ g) (hb : w.heap[g]? = some (.cells cur 22 (0, 0)))
    (h1 : xs.length ≤ cap) (h2 : cap ≤ maxLen) (h3 : cur.size = cap) : OwnG KNr (sortWorld encN w g 0 n ys.toArray os) B (.slice (some ⟨g, 0, none⟩) xs.length cap) (valN ys) := by
  refine ⟨by rw [flatN_len]; simp, .inr ⟨g, cap, _, by simp [hl], hB, heap_sortN _ hb, by simp; omega, h2, by simp [putCells, h3], ?_⟩⟩
  rw [List.length_map, Nat.mul_one]
  exact take_putN cur ys (by omega)
theorem perm_of_inN {d d' : Array Nx} (h : PermIn 0 d.size d d') : d'.toList.Perm d.toList := by
  obtain ⟨h1, -, h3⟩ := h
  have e : d'.extract 0 d.size = d' := by rw [← h1]; simp
  rw [e] at h3
  simpa using h3
theorem pair_of_sortedN {tf : Nat → Nat} {d : Array Nx} {n : Nat} (hn : n = d.size) (h : SortedIn (ltOf (cmpN tf)) 0 n d) : d.toList.Pairwise (fun x y => ¬ tf y.1 < tf x.1) := by
  rw [List.pairwise_iff_getElem]
  intro i j hi hj hij
  have h9 := h i j (Nat.zero_le _) hij (by rw [hn]; simpa using hj)
  rw [getElem!_pos d i (by simpa using hi), getElem!_pos d j (by simpa using hj)] at h9
  intro h8
  have h7 := (cmpN_lt tf _ _).2 h8
  simp at h7
  rw [h7] at h9
  cases h9
end
section
set_option maxRecDepth 20000
set_option maxHeartbeats 1600000
theorem nanN_t (x : Int) (w : World) : Calls Tryz.prog 75 #[.int .u64 x] w fun e w' => e = .returned (.bool false) ∧ w' = w := by
  go_enter Tryz.func75, Tryz.ntmps75
  go_wp2
  go_ret
  exact ⟨by simp, rfl⟩
theorem cmpN_t (x y : Int) (w : World) : Calls Tryz.prog 57 #[.int .u64 x, .int .u64 y] w fun e w' => e = .returned (.int .i64 (Lib.compareInt x y)) ∧ w' = w := by
  have HR : Hid (Lib.compareInt x y = if x < y then -1 else if x > y then 1 else 0) := rfl
  obtain ⟨r, hr⟩ : ∃ r, r = Lib.compareInt x y := ⟨_, rfl⟩
  rw [← hr]
  have HQ : Hid (r = if x < y then -1 else if x > y then 1 else 0) := by unfold Hid; rw [hr]; exact HR.out
  clear hr HR
  by_cases h1 : x < y
  · have h9 : Hid (r = -1) := by have := HQ.out; unfold Hid; rw [if_pos h1] at this; exact this
    clear HQ
    go_enter Tryz.func57, Tryz.ntmps57
    go_wp2_with (go_at_call 75; refine (nanN_t _ _).mono ?_; rintro e w' ⟨rfl, rfl⟩)
    go_ret
    rw [h9.out]
    exact ⟨rfl, rfl⟩
  · by_cases h2 : y < x
    · have h9 : Hid (r = 1) := by have := HQ.out; unfold Hid; rw [if_neg h1, if_pos h2] at this; exact this
      clear HQ
      go_enter Tryz.func57, Tryz.ntmps57
      go_wp2_with (go_at_call 75; refine (nanN_t _ _).mono ?_; rintro e w' ⟨rfl, rfl⟩)
      go_ret
      rw [h9.out]
      exact ⟨rfl, rfl⟩
    · have h9 : Hid (r = 0) := by have := HQ.out; unfold Hid; rw [if_neg h1, if_neg h2] at this; exact this
      clear HQ
      go_enter Tryz.func57, Tryz.ntmps57
      go_wp2_with (go_at_call 75; refine (nanN_t _ _).mono ?_; rintro e w' ⟨rfl, rfl⟩)
      go_ret
      rw [h9.out]
      exact ⟨rfl, rfl⟩
end
theorem rdN_new (u : World) (s : Nat) (n : Nat) (hn : n = u.heap.size) : RdG KNr (u.alloc (.cells #[.int .u64 (s : Int)] 22)) (some ⟨n, 0, none⟩) [s] := by
  subst hn
  have h9 := heap_alloc_new u (.cells #[.int .u64 (s : Int)] 22)
  intro j hj
  have hj0 : j = 0 := by simp at hj; omega
  subst hj0
  refine ⟨_, _, rfl, fun q v hq => ?_, _, _, h9⟩
  rw [cell_of_row _ _ _ _ _ _ h9]
  match q, hq with
  | 0, hq => exact hq
  | q + 1, hq => simp at hq
section
set_option maxRecDepth 20000
set_option maxHeartbeats 1600000
theorem sortN_s (F : Nat) (cb : Array Value) (tf : Nat → Nat) (B g cap : Nat) (xs : List Nx) (w : World) (h : OwnG KNr w B (.slice (some ⟨g, 0, none⟩) xs.length cap) (valN xs)) (hl : xs.length ≤ 8192)
    (eg : ∀ args w, (callFunc F args).run Tryz.prog w = .ok (.enter F args) w) (hc : ∀ u, w.grownBy u (some g) → ∀ x y : Nx, Calls Tryz.prog F (#[encN x, encN y] ++ cb) u fun e w' => e = .returned (.int .i64 (cmpN tf x y)) ∧ ∃ q os', w' = grow (u.drewN q) os') :
    Calls Tryz.prog 55 #[.slice (some ⟨g, 0, none⟩) xs.length cap, .func (.func F) #[] cb] w fun e w' => e = .returned (.tuple #[]) ∧ ∃ ys : List Nx, ys.Perm xs ∧ ys.Pairwise (fun x y => ¬ tf y.1 < tf x.1) ∧ OwnG KNr w' B (.slice (some ⟨g, 0, none⟩) xs.length cap) (valN ys) ∧ w.grownBy w' (some g) := by
  haveI : Inhabited Nx := ⟨⟨0, by unfold inN; decide⟩⟩
  rcases h.2 with ⟨h0, _⟩ | ⟨g', cap', cur, hv, hB, hg, hn, hm, hs, ht⟩
  · cases h0
  · simp only [Value.slice.injEq, Option.some.injEq, Addr.mk.injEq] at hv
    obtain ⟨⟨rfl, -⟩, -, rfl⟩ := hv
    rw [List.length_map] at hn ht
    rw [Nat.mul_one] at hs ht
    have hcon := Any.slices_SortFunc Tryz.sortU encN (fun _ => rfl) (cmpN tf) (swoN tf) F cb g 0 cap xs.toArray w eg (fun m os dk _ x y => hc _ (grown_sortN dk) x y) (holdsN hg ht) (Array.getElem?_eq_some_iff.1 hg).1 (by simp; omega)
    change Calls Tryz.prog 55 #[.slice (some ⟨g, 0, none⟩) xs.length cap, _] w _ at hcon
    refine hcon.mono ?_
    rintro e w' ⟨rfl, d', n, os, hp, hso, rfl⟩
    have hpp : d'.toList.Perm xs := by simpa using perm_of_inN hp
    refine ⟨rfl, d'.toList, hpp, pair_of_sortedN (by rw [hp.1]) hso, ?_, grown_sortN _⟩
    have e9 : d' = d'.toList.toArray := by simp
    rw [e9]
    simp only [List.toList_toArray]
    exact ownN_sorted (hpp.length_eq) hB hg hn hm hs
end
theorem sorted_nn (tf : Nat → Nat) : ∀ {xs ys : List Nat}, xs.Pairwise (fun x y => tf x < tf y) → ys.Pairwise (fun x y => tf x < tf y) → (∀ t, t ∈ xs ↔ t ∈ ys) → xs = ys
  | [], [], _, _, _ => rfl
  | [], y :: ys, _, _, h => by have := (h y).2 (by simp); cases this
  | x :: xs, [], _, _, h => by have := (h x).1 (by simp); cases this
  | x :: xs, y :: ys, h1, h2, h => by
    obtain ⟨a1, a2⟩ := List.pairwise_cons.1 h1
    obtain ⟨b1, b2⟩ := List.pairwise_cons.1 h2
    have e : x = y := by
      rcases List.mem_cons.1 ((h x).1 (by simp)) with e | e
      · exact e
      · rcases List.mem_cons.1 ((h y).2 (by simp)) with e' | e'
        · exact e'.symm
        · have := b1 x e; have := a1 y e'; omega
    subst e
    congr 1
    refine sorted_nn tf a2 b2 (fun t => ⟨fun ht => ?_, fun ht => ?_⟩)
    · rcases List.mem_cons.1 ((h t).1 (by simp [ht])) with e | e
      · subst e; have := a1 t ht; omega
      · exact e
    · rcases List.mem_cons.1 ((h t).2 (by simp [ht])) with e | e
      · subst e; have := b1 t ht; omega
      · exact e
/-- a row of the same, in the order of its touches, is the row in its order -/
theorem sortN_is {tf : Nat → Nat} {xs ys : List Nat} (hx : xs.Pairwise (fun x y => tf x < tf y)) (hn : ys.Nodup) (hm : ∀ t, t ∈ ys ↔ t ∈ xs) (hy : ys.Pairwise (fun x y => ¬ tf y < tf x)) : ys = xs := by
  refine sorted_nn tf ?_ hx hm
  rw [List.pairwise_iff_getElem] at hy ⊢
  intro i j hi hj hij
  have h1 := hy i j hi hj hij
  have h2 : ys[i] ≠ ys[j] := List.pairwise_iff_getElem.1 hn i j hi hj hij
  obtain ⟨a, ha, ea⟩ := List.mem_iff_getElem.1 ((hm _).1 (List.getElem_mem hi))
  obtain ⟨b, hb, eb⟩ := List.mem_iff_getElem.1 ((hm _).1 (List.getElem_mem hj))
  have hp := List.pairwise_iff_getElem.1 hx
  rcases Nat.lt_trichotomy a b with h | h | h
  · have := hp a b ha hb h; rw [ea, eb] at this; exact this
  · subst h; exact absurd (ea.symm.trans eb) h2
  · have := hp b a hb ha h; rw [ea, eb] at this; omega
end Go.Proofs.YtiedgcanndgmoaaGreatDoor
namespace Go.Proofs.YtiedgcanndgmoaaGreatDoor
set_option linter.unusedVariables false
set_option linter.unusedSimpArgs false
open Go.RowKit Go.Maps Go.Shelf
theorem alw {w w1 : World} (h : Below w.heap.size w w1) (o : Obj) : Below w.heap.size w (w1.alloc o) := h.alloc h.size o
/-- the order of a session's number -/
def ordOf (L : List Xe) (n : Nat) : Nat := match gl (ses L) n with | some x => x.2 | none => 0
theorem ordOf_in {L : List Xe} (hn : (L.map Xe.n).Nodup) {x : Xe} (hx : x ∈ L) : ordOf L x.n = x.o := by unfold ordOf; rw [gl_ses_in hn hx]
theorem ordOf_so {L : List Xe} (hn : (L.map Xe.n).Nodup) (ho : L.Pairwise (fun a b => a.o < b.o)) : (L.map Xe.n).Pairwise (fun x y => ordOf L x < ordOf L y) := by
  rw [List.pairwise_map]
  exact ho.imp_of_mem (fun {a b} ha hb h => by rw [ordOf_in hn ha, ordOf_in hn hb]; exact h)
theorem fieldO (a b c : Value) (u : World) : (Instr.field 88 (.agg #[a, b, c]) 1).run Tryz.prog u = .ok c u := by kernel_rfl
section
variable {w w' : World} {p ms : Nat} {L : List Xe}
theorem getO (n : Nat) (hn : inN n) : ∃ k : Fk, ∀ u : World, MapG KSe u ms (ses L) → (Instr.lookup tMs (.map (some ms)) (.int .u64 (n : Int)) false).run Tryz.prog u = .ok (.agg #[.int .i64 k.1, .int .u64 (k.2 : Int), .int .u64 (ordOf L n : Int)]) u := by
  cases hl : gl (ses L) n with
  | some x =>
    refine ⟨x.1, fun u hu => ?_⟩
    have h9 := hu.get uMs zMs (s := n) hn
    rw [hl] at h9
    have e9 : ordOf L n = x.2 := by unfold ordOf; rw [hl]
    rw [e9]
    exact h9
  | none =>
    refine ⟨(0, 0), fun u hu => ?_⟩
    have h9 := hu.get uMs zMs (s := n) hn
    rw [hl] at h9
    have e9 : ordOf L n = 0 := by unfold ordOf; rw [hl]
    rw [e9]
    exact h9
set_option maxRecDepth 20000
set_option maxHeartbeats 1600000
theorem cloN_t (B : Nat) (hB : w.cell? ⟨B, 0, none⟩ = some (.pointer (some ⟨p, 0, none⟩))) (hc : w.cell? ⟨p, 5, none⟩ = some (.map (some ms))) (h : MapG KSe w ms (ses L)) (x y : Nx) :
    Calls Tryz.prog 56 #[encN x, encN y, .pointer (some ⟨B, 0, none⟩)] w fun e w' => e = .returned (.int .i64 (cmpN (ordOf L) x y)) ∧ ∃ q os', w' = Sort.grow (w.drewN q) os' := by
  obtain ⟨k1, hv1⟩ := getO (ms := ms) (L := L) x.1 x.2
  obtain ⟨k2, hv2⟩ := getO (ms := ms) (L := L) y.1 y.2
  have HCM : Hid (∀ u : World, Calls _ _ _ u _) := fun u => cmpN_t (ordOf L x.1 : Int) (ordOf L y.1 : Int) u
  have hR : cmpN (ordOf L) x y = Lib.compareInt (ordOf L x.1 : Int) (ordOf L y.1 : Int) := rfl
  rw [hR]
  generalize Lib.compareInt (ordOf L x.1 : Int) (ordOf L y.1 : Int) = r1 at HCM ⊢
  have hS : ∀ u, Below w.heap.size w u → u.cell? ⟨B, 0, none⟩ = some (.pointer (some ⟨p, 0, none⟩)) ∧ u.cell? ⟨p, 5, none⟩ = some (.map (some ms)) ∧ (Instr.lookup tMs (.map (some ms)) (.int .u64 (x.1 : Int)) false).run Tryz.prog u = .ok (.agg #[.int .i64 k1.1, .int .u64 (k1.2 : Int), .int .u64 (ordOf L x.1 : Int)]) u ∧ (Instr.lookup tMs (.map (some ms)) (.int .u64 (y.1 : Int)) false).run Tryz.prog u = .ok (.agg #[.int .i64 k2.1, .int .u64 (k2.2 : Int), .int .u64 (ordOf L y.1 : Int)]) u := fun u hb =>
    ⟨(hb.cell (World.block_lt_of_cell? w _ hB)).trans hB, (hb.cell (World.block_lt_of_cell? w _ hc)).trans hc, hv1 u (h.below hb), hv2 u (h.below hb)⟩
  obtain ⟨t1, ht1⟩ : ∃ t1 : Nat, t1 = ordOf L x.1 := ⟨_, rfl⟩
  obtain ⟨t2, ht2⟩ : ∃ t2 : Nat, t2 = ordOf L y.1 := ⟨_, rfl⟩
  rw [← ht1, ← ht2] at hS HCM
  have hfl := fieldO
  clear h hv1 hv2 hR hB hc ht1 ht2
  go_enter Tryz.func56, Tryz.ntmps56
  go_wp2
  refine wp_region_noPanic ?_
  refine wp_region_held_drew (S := (fun u => Below w.heap.size w u)) (by kernel_rfl) (by first | exact Below.refl _ _ | exact (Below.refl _ _).drew | assumption) (fun hHeld => ?_)
  refine tz (i := 0) 6 rfl rfl hHeld ?_
  simp only [pS]
  refine tz (i := 1) 7 rfl rfl hHeld ?_
  simp only [pS]
  refine tz (i := 2) 8 rfl rfl hHeld ?_
  simp only [pS]
  refine tz (i := 3) 9 rfl rfl hHeld ?_
  simp only [pS]
  refine tz (i := 4) 10 rfl rfl hHeld ?_
  simp only [pS]
  refine tz (i := 5) 11 rfl rfl hHeld ?_
  simp only [pS]
  refine tz (i := 6) 12 rfl rfl hHeld ?_
  simp only [pS]
  refine tz (i := 7) 13 rfl rfl hHeld ?_
  simp only [pS]
  refine tz (i := 8) 14 rfl rfl hHeld ?_
  simp only [pS]
  refine tz (i := 9) 15 rfl rfl hHeld ?_
  simp only [pS]
  refine tz (i := 10) 16 rfl rfl hHeld ?_
  simp only [pS]
  refine tz (i := 11) 17 rfl rfl hHeld ?_
  simp only [pS]
  refine tz (i := 12) 18 rfl rfl hHeld ?_
  simp only [pS]
  refine tz (i := 13) 19 rfl rfl hHeld ?_
  simp only [pS]
  refine run_at (i := 14) rfl (by kernel_rfl) (by rfl) (fun K hK => ?_)
  simp only [List.getElem_toArray, List.getElem_cons_zero, List.getElem_cons_succ]
  go_simp
  (go_at_call 57; refine Calls.mono (HCM.out _) ?_; rintro e u4 ⟨rfl, hq4⟩; have hq4 := hq4.symm; subst hq4)
  go_wp2_with fail
  refine hK.out _ _ (by first | exact Below.refl _ _ | exact (Below.refl _ _).drew | assumption) ?_
  clear hK K
  intro hHeld2
  clear hHeld
  have hHeld := hHeld2
  clear hHeld2
  try simp only [pS]
  refine tz (i := 15) 5 rfl rfl hHeld ?_
  simp only [pS]
  refine wpAnyH_done (by kernel_rfl) ?_ _
  refine NoPanic.normal ?_
  go_wp2
  go_ret
  exact ⟨rfl, 1, #[], by rw [Sort.grow_empty]; rfl⟩
theorem srtN_t (B Bq : Nat) (v : Value) (ds : List Nat) (hds : ∀ s, s ∈ ds → inN s) (h : OwnG KNr w B v ds) (hl : ds.length ≤ 8192) (hB : w.cell? ⟨Bq, 0, none⟩ = some (.pointer (some ⟨p, 0, none⟩))) (hc : w.cell? ⟨p, 5, none⟩ = some (.map (some ms))) (hr : MapG KSe w ms (ses L)) (n1 : Bq < B) (n2 : p < B) (n3 : ms < B) :
    Calls Tryz.prog 55 #[v, .func (.func 56) #[] #[.pointer (some ⟨Bq, 0, none⟩)]] w fun e w' => e = .returned (.tuple #[]) ∧ ∃ ys : List Nat, ys.Perm ds ∧ ys.Pairwise (fun x y => ¬ ordOf L y < ordOf L x) ∧ OwnG KNr w' B v ys ∧ w.grownBy w' v.ownBlock := by
  rcases h.2 with ⟨rfl, h0⟩ | ⟨g, cap, cur, rfl, hBg, r⟩
  · obtain rfl : ds = [] := List.eq_nil_of_length_eq_zero h0
    refine (AnyF.slices_SortFunc_none { Tryz.sortU with } none 0 (.func (.func 56) #[] #[.pointer (some ⟨Bq, 0, none⟩)]) w).mono ?_
    rintro e w' ⟨rfl, rfl⟩
    exact ⟨rfl, [], .refl _, List.Pairwise.nil, h, World.grownBy.refl _ _⟩
  · have e1 : valN (ds.attachWith inN hds) = ds := List.attachWith_map_subtype_val hds
    have e2 : (ds.attachWith inN hds).length = ds.length := by simp
    have hcon := sortN_s 56 #[.pointer (some ⟨Bq, 0, none⟩)] (ordOf L) B g cap (ds.attachWith inN hds) w (by rw [e1, e2]; exact h) (by rw [e2]; exact hl) (enters_of Tryz.func56 (by kernel_rfl) rfl)
      (fun u hu x y => cloN_t Bq (hu.cell hB (fun e => by have h9 : Bq = g := Option.some.inj e; omega)) (hu.cell hc (fun e => by have h9 : p = g := Option.some.inj e; omega)) (hr.kept (hu.block ms hr.lt (fun e => by have := Option.some.inj e; omega))) x y)
    rw [e2] at hcon
    refine hcon.mono ?_
    rintro e w' ⟨rfl, ys, hp, hso, ho, hg⟩
    refine ⟨rfl, valN ys, ?_, List.pairwise_map.2 hso, ho, hg⟩
    have h9 : (valN ys).Perm (valN (ds.attachWith inN hds)) := hp.map (fun x : Nx => x.1)
    rw [e1] at h9
    exact h9
theorem inOrder_t (hc : w.cell? ⟨p, 5, none⟩ = some (.map (some ms))) (h : MapG KSe w ms (ses L)) (hL : L.length ≤ 64) (hno : (L.map Xe.n).Nodup) (hod : L.Pairwise (fun a b => a.o < b.o)) :
    Calls Tryz.prog 36 #[.pointer (some ⟨p, 0, none⟩)] w fun e w' => ∃ v, e = .returned v ∧ OwnG KNr w' w.heap.size v (L.map Xe.n) ∧ Below w.heap.size w w' := by
  have hpl : p < w.heap.size := World.block_lt_of_cell? w _ hc
  have hml : ms < w.heap.size := h.lt
  have HR : Hid _ := h
  obtain ⟨P, hP⟩ : ∃ P, P = w.heap.size := ⟨_, rfl⟩
  obtain ⟨w2, hw2⟩ : ∃ w2, w2 = w.alloc (.cells #[.pointer (some ⟨p, 0, none⟩)] 27) := ⟨_, rfl⟩
  have hb2 : Below w.heap.size w w2 := by rw [hw2]; exact alw (Below.refl _ _) _
  have hA : w2.heap[P]? = some (.cells #[.pointer (some ⟨p, 0, none⟩)] 27 (0, 0)) := by
    rw [hw2, hP]
    exact heap_alloc_new w _
  have hS2 : w2.heap.size = P + 1 := by rw [hw2, hP]; simp
  have HW2 : Hid (w2 = _) := hw2
  have HRM : Hid (MapG KSe w2 ms (ses L)) := h.below hb2
  have HP : Hid (P = w.heap.size) := hP
  clear h hP hw2
  go_enter Tryz.func36, Tryz.ntmps36
  go_wp2_with (at_range; refine gwpn_range (K := KSe) uMs rfl _ rfl (L := ses L) (by have h9 := HRM.out; rw [HW2.out] at h9; exact h9) rfl ?_; intro w3 hr3 hg3 hs3)
  go_frame
  rw [← HW2.out] at hr3 hg3 hs3 ⊢
  obtain ⟨R, hR⟩ : ∃ R, R = w2.heap.size := ⟨_, rfl⟩
  rw [← hR] at hr3 ⊢
  rw [← HP.out]
  have hb3 : Below w.heap.size w w3 := hb2.grown hg3 hb2.size (fun j hj => by cases hj)
  have hA3 : w3.heap[P]? = some (.cells #[.pointer (some ⟨p, 0, none⟩)] 27 (0, 0)) := (hg3.block P (by omega) (by simp)).trans hA
  have HRP : Hid (R = P + 1) := by unfold Hid; omega
  have hs4 : P + 2 ≤ w3.heap.size := by omega
  have HC : Hid _ := hc
  clear hA hg3 hs3 hS2 hR hb2 hc
  go_loopw [3] (fun v wr => ∃ (ds : List Nat) (cnt : Nat), RngG KSe wr ms R (ses L) ds cnt ∧ OwnG KNr wr (P + 2) v ds ∧ wr.heap[P]? = some (.cells #[.pointer (some ⟨p, 0, none⟩)] 27 (0, 0)) ∧ Below w.heap.size w wr ∧ P + 2 ≤ wr.heap.size) (fun _ wr => wr.rangeLeft ms R)
  case atStart => exact ⟨[], _, hr3, World.ownsRow_nil _ _ _ _, hA3, hb3, hs4⟩
  case round =>
    obtain ⟨ds, cnt, hrg, hown, hA, hbw, hsz⟩ := hrel
    clear hr3 hA3 hb3 hs4
    go_wp2_with (at_next; refine gwpn_next rfl _ rfl hrg rfl ?_ ?_)
    · intro hd
      have hdE : ∀ s, s ∈ ds ↔ s ∈ L.map Xe.n := fun s => by have := hd s; rw [gk_ses] at this; exact this
      have hcB : wr.cell? ⟨P, 0, none⟩ = some (.pointer (some ⟨p, 0, none⟩)) := by rw [cell_of_row _ _ _ _ _ _ hA]; rfl
      have hcM : wr.cell? ⟨p, 5, none⟩ = some (.map (some ms)) := (hbw.cell hpl).trans HC.out
      have hrw : MapG KSe wr ms (ses L) := MapG.below HR.out hbw
      have hdl : ds.length ≤ 8192 := by have := hrg.sub; rw [len_ses] at this; omega
      have HSRT : Hid (Calls _ _ _ wr _) := srtN_t (P + 2) P u3 ds (fun s hs => hrg.rg s ((by rw [gk_ses]; exact (hdE s).1 hs))) hown hdl hcB hcM hrw (by omega) (by have := HP.out; omega) (by have := HP.out; omega)
      have HND : Hid _ := hrg.nd
      have HDE : Hid _ := hdE
      obtain ⟨av, cv, hvv, -⟩ : ∃ a c, u3 = .slice a ds.length c ∧ True := by
        rcases hown.2 with ⟨rfl, h0⟩ | ⟨g, cap, cur, rfl, -⟩
        · exact ⟨none, 0, by rw [h0], trivial⟩
        · exact ⟨_, _, rfl, trivial⟩
      have HBW : Hid _ := hbw
      have HSZ : Hid _ := hsz
      obtain ⟨N, hN⟩ : ∃ N, N = ds.length := ⟨_, rfl⟩
      rw [← hN] at hvv
      subst hvv
      have hlt3 : ∀ b, (Value.slice av N cv).ownBlock = some b → P + 2 ≤ b := fun b hb => (World.ownsRow.lt hown b hb).1
      have HLT3 : Hid _ := hlt3
      clear hd hdE hrg hown hA hcB hcM hrw hdl hbw hsz hN hlt3
      go_wp2_with fail
      refine Calls.mono HSRT.out ?_
      rintro e w6 ⟨rfl, ys, hpm, hso, hown6, hg6⟩
      have hyE : ys = L.map Xe.n := sortN_is (ordOf_so hno hod) (hpm.nodup_iff.2 HND.out) (fun t => (hpm.mem_iff).trans (HDE.out t)) hso
      have HO6 : Hid (OwnG KNr w6 (P + 2) (.slice av N cv) (L.map Xe.n)) := by rw [← hyE]; exact hown6
      have HG6 : Hid _ := hg6
      clear hpm hso hown6 hg6 hyE
      go_wp2
      go_ret
      exact ⟨_, rfl, OwnG.base HO6.out (by have := HP.out; omega), HBW.out.grown HG6.out HBW.out.size (fun j hj => by have := HLT3.out j hj; have := HP.out; omega)⟩
    · intro n9 ka kb ko w5 cnt5 hx9 hnd hrg5 hlt5 hg5 hs5 hen
      have hen' : (Instr.entry (.pointer (some ⟨R, 0, none⟩))).run Tryz.prog w5 = .ok (.tuple #[.int .u64 (n9 : Int), .agg #[.int .i64 ka, .int .u64 (kb : Int), .int .u64 (ko : Int)]]) w5 := hen
      have hrg5 : RngG KSe w5 ms R (ses L) (ds ++ [n9]) cnt5 := hrg5
      clear hen
      have hrp := HRP.out
      have hA5 := (hg5.block P (Array.getElem?_eq_some_iff.1 hA).1 (fun e => by have := Option.some.inj e; omega)).trans hA
      have hb5 : Below w.heap.size w w5 := hbw.grown hg5 hbw.size (fun j hj => by have := HP.out; have := Option.some.inj hj; omega)
      have hown5 : OwnG KNr w5 (P + 2) u3 ds := hown.kept (fun b hb => hg5.block b (hown.lt' hb).2 (fun e => by have := (hown.lt' hb).1; have := Option.some.inj e; omega))
      have hlt3 : ∀ b, u3.ownBlock = some b → P + 2 ≤ b := fun b hb => (hown.lt' hb).1
      have hdl : ds.length ≤ 8192 := by have := hrg.sub; rw [len_ses] at this; omega
      have HLT : Hid (cnt5 < wr.rangeLeft ms R) := by unfold Hid; rw [hrg.left_eq]; exact hlt5
      have HA5 : Hid _ := hA5
      have HB5 : Hid _ := hb5
      have HRG5 : Hid _ := hrg5
      have HLT3 : Hid _ := hlt3
      have HO5 : Hid (OwnG KNr (w5.alloc (.cells #[.int .u64 (n9 : Int)] 22)) (P + 2) u3 ds) := OwnG.below hown5 (alw (Below.refl _ _) _)
      have HMR : Hid (ms ≠ R ∧ R < w5.heap.size) := by
        obtain ⟨D, left, h9, -⟩ := hrg5.ex
        exact ⟨fun e => h9.ne e.symm, h9.lt⟩
      have hs5' : P + 2 ≤ w5.heap.size := by omega
      clear hx9 hnd hrg5 hlt5 hg5 hs5 hrg hA hbw hA5 hb5 hown hown5 hlt3 hrp hsz
      go_wp2_with (at_builtin; refine wp_appG1 (K := KNr) rfl _ _ rfl (P + 2) u3 ds n9 ds.length rfl ⟨w5.heap.size, 0, none⟩ 1 rfl HO5.out rfl (rdN_new _ n9 _ rfl) (by show (ds.length + 1) * 8 ≤ _; omega) (by simp only [maxLen]; omega) (by simp; omega) ?_; intro g7 c7 w7 hown7 hg7 hlie7)
      go_roundw
      case rel =>
        have hrg7 := (HRG5.out.alloc (.cells #[.int .u64 (n9 : Int)] 22))
        refine ⟨_, _, RngG.kept hrg7 (hg7.block ms hrg7.lt.1 (fun e => ?_)) (hg7.block R hrg7.lt.2 (fun e => ?_)), hown7, (hg7.block P ?_ (fun e => ?_)).trans ((Below.heap_alloc _ _ _ ?_).trans HA5.out), (alw HB5.out _).grown hg7 ?_ (fun j hj => ?_), ?_⟩
        · have := HLT3.out ms e.symm; have := HP.out; omega
        · have := HLT3.out R e.symm; have := HRP.out; omega
        · simp; omega
        · have := HLT3.out P e.symm; omega
        · omega
        · have := HB5.out.size; simp; omega
        · have := HLT3.out j hj; have := HP.out; omega
        · have := hg7.size; simp at this; omega
      case measure =>
        have hrg7 := (HRG5.out.alloc (.cells #[.int .u64 (n9 : Int)] 22))
        have h9 := RngG.kept hrg7 (hg7.block ms hrg7.lt.1 (fun e => by have := HLT3.out ms e.symm; have := HP.out; omega)) (hg7.block R hrg7.lt.2 (fun e => by have := HLT3.out R e.symm; have := HRP.out; omega))
        rw [h9.left_eq]
        exact HLT.out
end
end Go.Proofs.YtiedgcanndgmoaaGreatDoor
namespace Go.Proofs.YtiedgcanndgmoaaGreatDoor
set_option linter.unusedVariables false
set_option linter.unusedSimpArgs false
open Go.RowKit Go.Maps
/-! the document's sender -/
abbrev tRx : TypeId := 95
abbrev tRe : TypeId := 103
abbrev xev (x : Xe) : List Value := [.int .u64 (x.n : Int), .int .i64 x.k.1, .int .u64 (x.k.2 : Int), .int .u64 (x.ov : Int)]
abbrev KRe : Kd Xe := { t := tRe, ts := 93, k := 4, by_ := 32, f := xev, z := .agg #[.int .u64 0, .int .i64 0, .int .u64 0, .int .u64 0], hk := fun _ => rfl, h1 := (fun d u hu => by simp at hu; rcases hu with rfl | rfl | rfl | rfl <;> rfl), hpos := by decide, ht := Tryz.underlying93, hi := by kernel_rfl, hz := rfl }
abbrev cellsR (s : Xs) (X : Value × Value × Value × Value) (v : Value) : Array Value := #[.int .i64 (s.mtu : Int), .int .u64 (s.ack : Int), X.1, X.2.1, X.2.2.1, X.2.2.2, .int .u64 (s.ep : Int), .int .u64 (s.clk : Int), v]
def footR (q : Nat) (v : Value) (b : Nat) : Prop := b = q ∨ v.ownBlock = some b
/-- the document's sender in memory -/
structure Rx (w : World) (q : Nat) (v : Value) (X : Value × Value × Value × Value) (s : Xs) : Prop where
  blk : w.heap[q]? = some (.cells (cellsR s X v) tRx (0, 0))
  row : OwnG KRe w 0 v s.L
  inv : XInv s
structure RxStp (w w' : World) (q : Nat) (v v' : Value) : Prop where
  chg : Chg (footR q v) w w'
  new : ∀ b, footR q v' b → footR q v b ∨ w.heap.size ≤ b
section
variable {w w' : World} {q : Nat} {v v' v'' : Value} {X : Value × Value × Value × Value} {s : Xs}
theorem RxStp.refl (w : World) (q : Nat) (v : Value) : RxStp w w q v v := ⟨Chg.refl _ _, fun _ h => .inl h⟩
theorem RxStp.below (h : Below w.heap.size w w') (q : Nat) (v : Value) : RxStp w w' q v v := ⟨Chg.of_below h, fun _ h => .inl h⟩
theorem RxStp.trans {a b c : World} (h : RxStp a b q v v') (k : RxStp b c q v' v'') : RxStp a c q v v'' :=
  ⟨h.chg.trans k.chg h.new, fun i hi => by
    rcases k.new i hi with h1 | h1
    · exact h.new i h1
    · exact .inr (Nat.le_trans h.chg.size h1)⟩
theorem Rx.ql (h : Rx w q v X s) : q < w.heap.size := (Array.getElem?_eq_some_iff.1 h.blk).1
theorem Rx.lt (h : Rx w q v X s) {b : Nat} (hb : footR q v b) : b < w.heap.size := by
  rcases hb with rfl | hb
  · exact h.ql
  · exact (h.row.lt' hb).2
theorem Rx.qv (h : Rx w q v X s) : ∀ b, v.ownBlock = some b → b ≠ q := fun b hb e => by
  obtain ⟨cur, h9⟩ := h.row.at_ hb
  rw [e, h.blk] at h9
  injection h9 with h9
  injection h9 with h9 h8
  exact absurd h8 (by decide)
theorem Rx.chg {G : Nat → Prop} (h : Rx w q v X s) (hc : Chg G w w') (hG : ∀ b, footR q v b → ¬ G b) : Rx w' q v X s :=
  ⟨(hc.block q h.ql (hG q (.inl rfl))).trans h.blk, h.row.kept (fun b hb => hc.block b (h.row.lt' hb).2 (hG b (.inr hb))), h.inv⟩
theorem Rx.below (h : Rx w q v X s) (hb : Below w.heap.size w w') : Rx w' q v X s := h.chg (Chg.of_below (F := fun _ => False) hb) (fun _ _ h => h)
theorem Rx.cell (h : Rx w q v X s) (i : Nat) : w.cell? ⟨q, i, none⟩ = (cellsR s X v)[i]? := by rw [cell_of_row _ _ _ _ _ _ h.blk]
theorem Rx.frz (h : Rx w q v X s) (i : Nat) : w.frozen? ⟨q, i, none⟩ = false := by simp [World.frozen?, h.blk]
theorem Rx.of_eq (h : Rx w q v X s) {t : Xs} (h1 : t.mtu = s.mtu) (h2 : t.ack = s.ack) (h3 : t.ep = s.ep) (h4 : t.clk = s.clk) (h5 : t.L = s.L) (hi : XInv t) : Rx w q v X t := by
  refine ⟨?_, ?_, hi⟩
  · have h9 := h.blk
    unfold cellsR at h9 ⊢
    rw [h1, h2, h3, h4]
    exact h9
  · rw [h5]; exact h.row
theorem Rx.setClk (h : Rx w q v X s) (c : Nat) (hc : s.clk ≤ c) (hm : c ≤ mxX) : Rx (w.setCell ⟨q, 7, none⟩ (.int .u64 (c : Int))) q v X { s with clk := c } := by
  refine ⟨heap_setCell_same w q 7 (cellsR s X v) tRx _ h.blk, h.row.kept (fun b hb => heap_setCell_other w ⟨q, 7, none⟩ b _ (h.qv b hb)), ?_⟩
  have i := h.inv
  exact ⟨i.mt, i.ak, i.e, hm, Nat.le_trans i.nc hc, i.len, i.num, i.good, i.nn, i.nk, i.od, i.le, i.op, fun x hx => by have := i.ov x hx; show x.ov ≤ min (c + s.ack) mxX; omega, i.at_⟩
/-- the row of sessions is another one -/
theorem Rx.setRow (h : Rx w q v X s) (hc : Chg (fun b => v.ownBlock = some b) w w') {L' : List Xe} (hr : OwnG KRe w' 0 v' L') (hv : ∀ b, v'.ownBlock = some b → v.ownBlock = some b ∨ w.heap.size ≤ b) (hi : XInv { s with L := L' }) : Rx (w'.setCell ⟨q, 8, none⟩ v') q v' X { s with L := L' } ∧ RxStp w (w'.setCell ⟨q, 8, none⟩ v') q v v' := by
  have hb := (hc.block q h.ql (fun e => h.qv q e rfl)).trans h.blk
  have hq : ∀ b, v'.ownBlock = some b → b ≠ q := fun b hb e => by
    rcases hv b hb with h1 | h1
    · exact h.qv b h1 e
    · have := h.ql; omega
  refine ⟨⟨heap_setCell_same w' q 8 (cellsR s X v) tRx _ hb, hr.kept (fun b hb => heap_setCell_other w' ⟨q, 8, none⟩ b _ (hq b hb)), hi⟩, ?_, ?_⟩
  · exact (hc.mono (fun b e => .inr e)).trans (Chg.of_grown (F := fun b => b = q) (gset1 w' q 8 v') (fun b e => (Option.some.inj e).symm)) (fun i e => .inl (.inl e))
  · rintro b (rfl | hb)
    · exact .inl (.inl rfl)
    · rcases hv b hb with h1 | h1
      · exact .inl (.inr h1)
      · exact .inr h1
theorem eql_fk (u : World) (a b c d : Int) : (binOp .eql tFk (.agg #[.int .i64 a, .int .u64 b]) (.agg #[.int .i64 c, .int .u64 d])).run Tryz.prog u = .ok (.bool (decide (a = c ∧ b = d))) u := by
  go_simp
  by_cases h1 : a = c <;> by_cases h2 : b = d <;> simp [h1, h2]
set_option maxRecDepth 20000
set_option maxHeartbeats 3200000
end
end Go.Proofs.YtiedgcanndgmoaaGreatDoor
