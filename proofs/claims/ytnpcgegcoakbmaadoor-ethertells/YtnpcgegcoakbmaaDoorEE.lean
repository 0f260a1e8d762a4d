import Derived.Test.YtnpcgegcoakbmaaDoorED
namespace Go.Proofs.YtnpcgegcoakbmaaDoor
set_option linter.unusedVariables false
set_option linter.unusedSimpArgs false
open Go.RowKit
theorem grow_drew {w : World} {r : Option Nat} : w.grownBy w.drew r := ⟨rfl, rfl, rfl, Nat.le_refl _, fun _ _ _ => rfl⟩
theorem grow_row {w : World} {g : Nat} (cs : Array Value) : w.grownBy (w.setRow g cs) (some g) := ⟨rfl, rfl, rfl, by simp [World.setRow], fun k _ hne => setRow_other w g k cs (fun e => hne (by simp [e]))⟩
abbrev tDg : TypeId := 65
abbrev tDs : TypeId := 23
/-- a row of datagrams that is known whole -/
def RowD (w : World) (g : Nat) (cur : List Value) : Prop := w.heap[g]? = some (.cells cur.toArray tDg (0, 0))
theorem row_open {w : World} {B g n cap : Nat} {E : List Dc} (h : OwnG KD w B (.slice (some ⟨g, 0, none⟩) n cap) E) : ∃ cur, RowD w g cur ∧ cur.length = cap * 2 ∧ cur.take (n * 2) = KD.flat E ∧ n ≤ cap ∧ cap ≤ maxLen ∧ n = E.length ∧ B ≤ g := by
  rcases h.2 with ⟨e, -⟩ | ⟨g', cap', cur, e, hB, hg, hn, hm, hs, ht⟩
  · cases e
  · cases e
    exact ⟨cur.toList, by unfold RowD; simpa using hg, by simpa using hs, by simpa using ht, hn, hm, rfl, hB⟩
theorem row_shut {w : World} {B g n cap : Nat} {cur : List Value} {E : List Dc} (h : RowD w g cur) (hl : cur.length = cap * 2) (ht : cur.take (n * 2) = KD.flat E) (hn : n ≤ cap) (hm : cap ≤ maxLen) (hE : n = E.length) (hB : B ≤ g) : OwnG KD w B (.slice (some ⟨g, 0, none⟩) n cap) E := by
  subst hE
  exact ⟨Kd.flat_len E, .inr ⟨g, cap, cur.toArray, rfl, hB, h, hn, hm, by simpa using hl, by simpa using ht⟩⟩
theorem RowD.cell {w : World} {g : Nat} {cur : List Value} (h : RowD w g cur) (k : Nat) : w.cell? ⟨g, k, none⟩ = cur[k]? := by
  rw [cell_of_row _ _ _ _ _ _ h]; simp
theorem RowD.thawed {w : World} {g : Nat} {cur : List Value} (h : RowD w g cur) (k : Nat) : w.frozen? ⟨g, k, none⟩ = false := by
  unfold RowD at h
  simp [World.frozen?, h]
theorem RowD.drew {w : World} {g : Nat} {cur : List Value} (h : RowD w g cur) : RowD w.drew g cur := h
theorem splice_cons {α : Type} (cur : List α) (k : Nat) (v : α) (r : List α) (hk : k < cur.length) : splice cur k (v :: r) = splice (cur.set k v) (k + 1) r := by
  unfold splice
  apply List.ext_getElem?
  intro j
  simp only [List.getElem?_append, List.length_take, List.length_set, List.length_cons, List.getElem?_take, List.getElem?_set, List.getElem?_drop, List.getElem?_cons]
  grind
theorem row_setCells {g : Nat} : ∀ (cs : List Value) (k : Nat) (w : World) (cur : List Value), RowD w g cur → k + cs.length ≤ cur.length → RowD (w.setCells g k cs) g (splice cur k cs) ∧ w.grownBy (w.setCells g k cs) (some g)
  | [], k, w, cur, h, _ => ⟨by have e : splice cur k ([] : List Value) = cur := (by unfold splice; simp); rw [e]; exact h, ⟨rfl, rfl, rfl, Nat.le_refl _, fun _ _ _ => rfl⟩⟩
  | v :: r, k, w, cur, h, hk => by
    have h1 : RowD (w.setCell ⟨g, k, none⟩ v) g (cur.set k v) := by
      unfold RowD
      rw [heap_setCell_same w g k _ tDg v h]
      simp
    obtain ⟨h2, h3⟩ := row_setCells r (k + 1) (w.setCell ⟨g, k, none⟩ v) (cur.set k v) h1 (by simp at hk ⊢; omega)
    rw [World.setCells, splice_cons cur k v r (by simp at hk; omega)]
    refine ⟨h2, ⟨h3.os, h3.tape, h3.output, by have := h3.size; simpa using this, fun i hi hne => ?_⟩⟩
    rw [h3.block i (by simpa using hi) hne]
    exact heap_setCell_other w ⟨g, k, none⟩ i v (fun e => hne (by simp [e]))
/-- append into the room that there is -/
theorem wpo_room {w : World} {o : Oper} {a : Act} {K : Act → World → Prop} {Q : Exit → Act → World → Prop} (s x : Operand)
    (ho : o.op = .call { callee := .builtin .append, args := #[s, x], argTypes := #[tDs, tDs] }) (g i cap : Nat) (cur : List Value) (hg : RowD w g cur) (hs : a.eval s = .slice (some ⟨g, 0, none⟩) i cap)
    (ad : Addr) (m c : Nat) (hx : a.eval x = .slice (some ad) m c) (news : List Value) (hl : news.length = m * 2) (hnews : ∀ j u, news[j]? = some u → w.cell? (ad.add j) = some u) (h1 : ∀ u ∈ news, u.oneCell' = true)
    (hroom : i + m ≤ cap) (hcap : cur.length = cap * 2) (L : Nat) (hL : i + m = L)
    (h : ∀ w', RowD w' g (splice cur (i * 2) news) → w.grownBy w' (some g) → K (a.put o.dst (.slice (some ⟨g, 0, none⟩) L cap)) w') : o.wp Tryd.prog a w K Q := by
  subst hL
  obtain ⟨i0, hi, hz0, hz1, hz2⟩ := info_parts KD.hi
  have hr := run_append_room (P := Tryd.prog) w tDs o.type tDg i0 KD.ht hi g i cap cur.toArray hg ad m c news (by rw [hz1]; exact hl) hnews h1 hroom (by rw [hz1, List.size_toArray]; show i * 2 + news.length ≤ cur.length; omega)
  unfold Oper.wp execOp
  simp only [ho, resolve, invoke, builtin, Sem.run_bind, Sem.run_pure, Result.andThen_ok, List.map_toArray, List.map_cons, List.map_nil, hs, hx, hr]
  refine h _ ?_ (grow_row _)
  unfold RowD
  rw [setRow_heap w g _ _ tDg _ hg, hz1]
  simp [splice]
theorem zero_dg (u : World) : (zeroValue tDg).run Tryd.prog u = .ok (.agg #[.bool false, .slice none 0 0]) u := by
  obtain ⟨i0, hi, hz0, hz1, hz2⟩ := info_parts KD.hi
  simp [zeroValue, typeInfo, hi, hz0]
theorem clear_run {w : World} {g k : Nat} {cur : List Value} (hg : RowD w g cur) (hk : k + 2 ≤ cur.length) :
    ∃ w', (∀ ty c, (Builtin.clear_ #[tDs] ty #[.slice (some ⟨g, k, none⟩) 1 c]).run Tryd.prog w = .ok (.tuple #[]) w') ∧ RowD w' g (splice cur k [.bool false, .slice none 0 0]) ∧ w.grownBy w' (some g) := by
  obtain ⟨h2, h3⟩ := row_setCells (g := g) [.bool false, .slice none 0 0] k w cur hg (by simpa using hk)
  refine ⟨_, fun ty c => ?_, h2, h3⟩
  have hzc : (Builtin.zeroCells (Value.cells (.agg #[.bool false, .slice none 0 0])) 1).toList = [.bool false, .slice none 0 0] := by kernel_rfl
  have hst := run_storeCells_cells (P := Tryd.prog) g k [.bool false, .slice none 0 0] 0 w (fun j hj => by rw [hg.cell, List.getElem?_eq_getElem (by simp at hj; omega)]; rfl) (fun j hj => hg.thawed _) (by intro v hv; simp at hv; rcases hv with rfl | rfl <;> rfl)
  simp only [Nat.add_zero] at hst
  simp [Builtin.clear_, run_underlying KD.ht, zero_dg, hzc, hst]
/-- some neighbouring places of a row are read where they lie -/
theorem RowD.src {w : World} {g : Nat} {cur : List Value} (h : RowD w g cur) (k m : Nat) : ∀ j u, ((cur.drop k).take m)[j]? = some u → w.cell? ((⟨g, k, none⟩ : Addr).add j) = some u := fun j u hu => by
  rw [Go.WideShapes.add_plain, h.cell]
  rw [List.getElem?_take] at hu
  split at hu
  · rw [List.getElem?_drop] at hu; exact hu
  · cases hu
theorem splice_take {α : Type} {X Y : List α} {k : Nat} (h : k ≤ X.length) : (splice X k Y).take k = X.take k := by
  unfold splice
  rw [List.take_append_of_le_length (by rw [List.length_take]; omega), List.take_take, Nat.min_self]
theorem splice_take2 {α : Type} {X Y : List α} {k m : Nat} (h : k ≤ X.length) (hm : m = k + Y.length) : (splice X k Y).take m = X.take k ++ Y := by
  unfold splice
  rw [← List.append_assoc, List.take_append_of_le_length (by rw [List.length_append, List.length_take]; omega), List.take_of_length_le (by rw [List.length_append, List.length_take]; omega)]
theorem splice_len {α : Type} {X Y : List α} {k : Nat} (h : k + Y.length ≤ X.length) : (splice X k Y).length = X.length := length_splice X k Y h
theorem take_of_take {α : Type} {cur vs : List α} {n i : Nat} (h : cur.take n = vs) (hi : i ≤ n) : cur.take i = vs.take i := by
  rw [← h, List.take_take, Nat.min_eq_left hi]
theorem flat_take {α : Type} {K : Kd α} (E : List α) (i : Nat) : (K.flat E).take (i * K.k) = K.flat (E.take i) := by
  by_cases hi : i ≤ E.length
  · have e : K.flat E = K.flat (E.take i) ++ K.flat (E.drop i) := by rw [← Kd.flat_app, List.take_append_drop]
    rw [e, List.take_left' (by rw [Kd.flat_len, List.length_take, Nat.min_eq_left hi])]
  · rw [List.take_of_length_le (by rw [Kd.flat_len]; exact Nat.mul_le_mul_right _ (by omega)), List.take_of_length_le (by omega)]
theorem flat_drop {α : Type} {K : Kd α} (E : List α) (i : Nat) : (K.flat E).drop (i * K.k) = K.flat (E.drop i) := by
  by_cases hi : i ≤ E.length
  · have e : K.flat E = K.flat (E.take i) ++ K.flat (E.drop i) := by rw [← Kd.flat_app, List.take_append_drop]
    rw [e, List.drop_left' (by rw [Kd.flat_len, List.length_take, Nat.min_eq_left hi])]
  · rw [List.drop_eq_nil_of_le (by rw [Kd.flat_len]; exact Nat.mul_le_mul_right _ (by omega)), List.drop_eq_nil_of_le (by omega)]
    rfl
section
set_option maxRecDepth 20000
set_option maxHeartbeats 3200000
/-- slices.Delete of one datagram -/
theorem delete_t {w : World} {g n cap : Nat} {E : List Dc} (h : OwnG KD w 0 (.slice (some ⟨g, 0, none⟩) n cap) E) (i j k : Nat) (hj : j = i + 1) (hi : i < n) (hk : k + 1 = n) (hl : n ≤ 1024) :
    Calls Tryd.prog 28 #[.slice (some ⟨g, 0, none⟩) n cap, .int .i64 (i : Int), .int .i64 (j : Int)] w fun e w' => e = .returned (.slice (some ⟨g, 0, none⟩) k cap) ∧ OwnG KD w' 0 (.slice (some ⟨g, 0, none⟩) k cap) (E.eraseIdx i) ∧ w.grownBy w' (some g) := by
  obtain ⟨cur, hrow, hcl, htk, hnc, hcm, hnE, -⟩ := row_open h
  have hFl : (KD.flat E).length = n * 2 := by rw [hnE]; exact Kd.flat_len E
  have HROW : Hid _ := hrow
  have HCL : Hid _ := hcl
  have HTK : Hid _ := htk
  have HCM : Hid _ := hcm
  have HNE : Hid _ := hnE
  have HFL : Hid _ := hFl
  have HU : Hid _ := Kd.flat_one' (K := KD) E
  have hi0 : (0 : Int) ≤ (i : Int) := by omega
  have hj0 : (0 : Int) ≤ (j : Int) := by omega
  have hij : (i : Int) ≤ (j : Int) := by omega
  have hjn : (j : Int) ≤ (n : Int) := by omega
  have hin : (i : Int) ≤ (n : Int) := by omega
  have hncI : (n : Int) ≤ (cap : Int) := by omega
  have hjc : (j : Int) ≤ (cap : Int) := by omega
  have hic : (i : Int) ≤ (cap : Int) := by omega
  have hijn : i ≤ j := by omega
  have hjnn : j ≤ n := by omega
  have hicn : i ≤ cap := by omega
  have hjcn : j ≤ cap := by omega
  have hci : ¬ cap = i := by omega
  have hni : ¬ n = i := by omega
  have hne : ¬ (i : Int) = (j : Int) := by omega
  have hneb : ((i : Int) == (j : Int)) = false := by simpa using hne
  have hkn : (k : Int) ≤ (n : Int) := by omega
  have hk0 : (0 : Int) ≤ (k : Int) := by omega
  have hkc : ¬ cap = k := by omega
  have hkcI : (k : Int) ≤ (cap : Int) := by omega
  have hknn : k ≤ n := by omega
  have hnk1 : n - k = 1 := by omega
  have HJ : Hid (j = i + 1) := hj
  have HK : Hid (k + 1 = n) := hk
  have HER : Hid (KD.flat (E.eraseIdx i) = (KD.flat E).take (i * 2) ++ (KD.flat E).drop (j * 2)) := by
    unfold Hid
    rw [List.eraseIdx_eq_take_drop_succ, Kd.flat_app, ← flat_take, ← flat_drop, hj]
  have HEL : Hid (k = (E.eraseIdx i).length) := by
    unfold Hid
    rw [List.length_eraseIdx_of_lt (by omega)]
    omega
  clear h hrow hcl htk hcm hnE hFl hj hk
  by_cases hcj : cap = j
  · obtain rfl : n = j := by omega
    subst hcj
    go_enter Tryd.func28, Tryd.ntmps28
    go_wp2_with fail
    refine wp_region_noPanic ?_
    refine wp_region_held_drew (S := (fun _ => True)) (by kernel_rfl) (by exact trivial) (fun hHeld => ?_)
    refine take_at (i := 0) 20 (v := ?_) rfl rfl (by kernel_rfl) (by kernel_rfl) (by kernel_rfl) (fun _ _ _ h => h) (by rfl) ?_ hHeld ?_
    rotate_left
    · (intro w hSw; (try dsimp only at hSw); go_simp; try with_reducible rfl)
    simp only [Act.put, List.setIfInBounds_toArray, List.set_cons_zero, List.set_cons_succ]
    refine take_at (i := 1) 21 (v := ?_) rfl rfl (by kernel_rfl) (by kernel_rfl) (by kernel_rfl) (fun _ _ _ h => h) (by rfl) ?_ hHeld ?_
    rotate_left
    · (intro w hSw; (try dsimp only at hSw); go_simp; try with_reducible rfl)
    simp only [Act.put, List.setIfInBounds_toArray, List.set_cons_zero, List.set_cons_succ]
    refine take_at (i := 2) 22 (v := ?_) rfl rfl (by kernel_rfl) (by kernel_rfl) (by kernel_rfl) (fun _ _ _ h => h) (by rfl) ?_ hHeld ?_
    rotate_left
    · (intro w hSw; (try dsimp only at hSw); go_simp; try with_reducible rfl)
    simp only [Act.put, List.setIfInBounds_toArray, List.set_cons_zero, List.set_cons_succ]
    refine take_at (i := 3) 23 (v := ?_) rfl rfl (by kernel_rfl) (by kernel_rfl) (by kernel_rfl) (fun _ _ _ h => h) (by rfl) ?_ hHeld ?_
    rotate_left
    · (intro w hSw; (try dsimp only at hSw); go_simp; try with_reducible rfl)
    simp only [Act.put, List.setIfInBounds_toArray, List.set_cons_zero, List.set_cons_succ]
    refine take_at (i := 4) 24 (v := ?_) rfl rfl (by kernel_rfl) (by kernel_rfl) (by kernel_rfl) (fun _ _ _ h => h) (by rfl) ?_ hHeld ?_
    rotate_left
    · (intro w hSw; (try dsimp only at hSw); go_simp; try with_reducible rfl)
    simp only [Act.put, List.setIfInBounds_toArray, List.set_cons_zero, List.set_cons_succ]
    refine take_at (i := 5) 25 (v := ?_) rfl rfl (by kernel_rfl) (by kernel_rfl) (by kernel_rfl) (fun _ _ _ h => h) (by rfl) ?_ hHeld ?_
    rotate_left
    · (intro w hSw; (try dsimp only at hSw); go_simp; try with_reducible rfl)
    simp only [Act.put, List.setIfInBounds_toArray, List.set_cons_zero, List.set_cons_succ]
    refine run_at (i := 6) rfl (by kernel_rfl) (by rfl) (fun K hK => ?_)
    simp only [List.getElem_toArray, List.getElem_cons_zero, List.getElem_cons_succ]
    (refine wpo_room _ _ rfl g i cap cur (RowD.drew HROW.out) rfl _ _ _ rfl ((KD.flat E).drop (cap * 2)) (by rw [List.length_drop, HFL.out]; omega) (fun t u ht => by rw [List.drop_eq_nil_of_le (by have := HFL.out; omega)] at ht; simp at ht) (fun u hx => HU.out u (List.mem_of_mem_drop hx)) (by omega) HCL.out k (by have := HJ.out; have := HK.out; omega) ?_; intro w2 hr2 hg2; have HR2 : Hid _ := hr2; have HG2 : Hid _ := hg2; clear hr2 hg2)
    refine hK.out _ _ (by exact trivial) ?_
    clear hK K
    intro hHeld2
    clear hHeld
    have hHeld := hHeld2
    clear hHeld2
    try simp only [Act.put, List.setIfInBounds_toArray, List.set_cons_zero, List.set_cons_succ]
    refine take_at (i := 7) 0 (v := ?_) rfl rfl (by kernel_rfl) (by kernel_rfl) (by kernel_rfl) (fun _ _ _ h => h) (by rfl) ?_ hHeld ?_
    rotate_left
    · (intro w hSw; (try dsimp only at hSw); go_simp; try with_reducible rfl)
    simp only [Act.put, List.setIfInBounds_toArray, List.set_cons_zero, List.set_cons_succ]
    refine wpAnyH_done (by kernel_rfl) ?_ _
    refine NoPanic.normal ?_
    obtain ⟨w3, hcl, hr3, hg3⟩ := clear_run (k := k * 2) HR2.out (by rw [splice_len (by rw [List.length_drop, HFL.out, HCL.out]; have := HJ.out; omega), HCL.out]; have := HK.out; omega)
    have HR3 : Hid _ := hr3
    have HG3 : Hid _ := hg3
    clear hr3 hg3
    go_wp2
    go_ret
    have hlen : (splice cur (i * 2) ((KD.flat E).drop (cap * 2))).length = cap * 2 := by rw [splice_len (by rw [List.length_drop, HFL.out, HCL.out]; omega), HCL.out]
    refine ⟨rfl, row_shut HR3.out ?_ ?_ (by omega) HCM.out HEL.out (Nat.zero_le _), grow_trans grow_drew (grow_trans HG2.out HG3.out)⟩
    · rw [splice_len (by rw [hlen]; have := HK.out; show _ + 2 ≤ _; omega), hlen]
    · rw [splice_take (by rw [hlen]; omega), splice_take2 (by rw [HCL.out]; omega) (by rw [List.length_drop, HFL.out]; have := HJ.out; have := HK.out; omega), take_of_take HTK.out (by omega), HER.out]
  · go_enter Tryd.func28, Tryd.ntmps28
    go_wp2_with fail
    refine wp_region_noPanic ?_
    refine wp_region_held_drew (S := (fun _ => True)) (by kernel_rfl) (by exact trivial) (fun hHeld => ?_)
    refine take_at (i := 0) 20 (v := ?_) rfl rfl (by kernel_rfl) (by kernel_rfl) (by kernel_rfl) (fun _ _ _ h => h) (by rfl) ?_ hHeld ?_
    rotate_left
    · (intro w hSw; (try dsimp only at hSw); go_simp; try with_reducible rfl)
    simp only [Act.put, List.setIfInBounds_toArray, List.set_cons_zero, List.set_cons_succ]
    refine take_at (i := 1) 21 (v := ?_) rfl rfl (by kernel_rfl) (by kernel_rfl) (by kernel_rfl) (fun _ _ _ h => h) (by rfl) ?_ hHeld ?_
    rotate_left
    · (intro w hSw; (try dsimp only at hSw); go_simp; try with_reducible rfl)
    simp only [Act.put, List.setIfInBounds_toArray, List.set_cons_zero, List.set_cons_succ]
    refine take_at (i := 2) 22 (v := ?_) rfl rfl (by kernel_rfl) (by kernel_rfl) (by kernel_rfl) (fun _ _ _ h => h) (by rfl) ?_ hHeld ?_
    rotate_left
    · (intro w hSw; (try dsimp only at hSw); go_simp; try with_reducible rfl)
    simp only [Act.put, List.setIfInBounds_toArray, List.set_cons_zero, List.set_cons_succ]
    refine take_at (i := 3) 23 (v := ?_) rfl rfl (by kernel_rfl) (by kernel_rfl) (by kernel_rfl) (fun _ _ _ h => h) (by rfl) ?_ hHeld ?_
    rotate_left
    · (intro w hSw; (try dsimp only at hSw); go_simp; try with_reducible rfl)
    simp only [Act.put, List.setIfInBounds_toArray, List.set_cons_zero, List.set_cons_succ]
    refine take_at (i := 4) 24 (v := ?_) rfl rfl (by kernel_rfl) (by kernel_rfl) (by kernel_rfl) (fun _ _ _ h => h) (by rfl) ?_ hHeld ?_
    rotate_left
    · (intro w hSw; (try dsimp only at hSw); go_simp; try with_reducible rfl)
    simp only [Act.put, List.setIfInBounds_toArray, List.set_cons_zero, List.set_cons_succ]
    refine take_at (i := 5) 25 (v := ?_) rfl rfl (by kernel_rfl) (by kernel_rfl) (by kernel_rfl) (fun _ _ _ h => h) (by rfl) ?_ hHeld ?_
    rotate_left
    · (intro w hSw; (try dsimp only at hSw); go_simp; try with_reducible rfl)
    simp only [Act.put, List.setIfInBounds_toArray, List.set_cons_zero, List.set_cons_succ]
    refine run_at (i := 6) rfl (by kernel_rfl) (by rfl) (fun K hK => ?_)
    simp only [List.getElem_toArray, List.getElem_cons_zero, List.getElem_cons_succ]
    (refine wpo_room _ _ rfl g i cap cur (RowD.drew HROW.out) rfl _ _ _ rfl ((KD.flat E).drop (j * 2)) (by rw [List.length_drop, HFL.out]; omega) (fun t u ht => RowD.src (RowD.drew HROW.out) (j * 2) (n * 2 - j * 2) t u (by rw [← HTK.out, List.drop_take] at ht; exact ht)) (fun u hx => HU.out u (List.mem_of_mem_drop hx)) (by omega) HCL.out k (by have := HJ.out; have := HK.out; omega) ?_; intro w2 hr2 hg2; have HR2 : Hid _ := hr2; have HG2 : Hid _ := hg2; clear hr2 hg2)
    refine hK.out _ _ (by exact trivial) ?_
    clear hK K
    intro hHeld2
    clear hHeld
    have hHeld := hHeld2
    clear hHeld2
    try simp only [Act.put, List.setIfInBounds_toArray, List.set_cons_zero, List.set_cons_succ]
    refine take_at (i := 7) 0 (v := ?_) rfl rfl (by kernel_rfl) (by kernel_rfl) (by kernel_rfl) (fun _ _ _ h => h) (by rfl) ?_ hHeld ?_
    rotate_left
    · (intro w hSw; (try dsimp only at hSw); go_simp; try with_reducible rfl)
    simp only [Act.put, List.setIfInBounds_toArray, List.set_cons_zero, List.set_cons_succ]
    refine wpAnyH_done (by kernel_rfl) ?_ _
    refine NoPanic.normal ?_
    obtain ⟨w3, hcl, hr3, hg3⟩ := clear_run (k := k * 2) HR2.out (by rw [splice_len (by rw [List.length_drop, HFL.out, HCL.out]; have := HJ.out; omega), HCL.out]; have := HK.out; omega)
    have HR3 : Hid _ := hr3
    have HG3 : Hid _ := hg3
    clear hr3 hg3
    go_wp2
    go_ret
    have hlen : (splice cur (i * 2) ((KD.flat E).drop (j * 2))).length = cap * 2 := by rw [splice_len (by rw [List.length_drop, HFL.out, HCL.out]; omega), HCL.out]
    refine ⟨rfl, row_shut HR3.out ?_ ?_ (by omega) HCM.out HEL.out (Nat.zero_le _), grow_trans grow_drew (grow_trans HG2.out HG3.out)⟩
    · rw [splice_len (by rw [hlen]; have := HK.out; show _ + 2 ≤ _; omega), hlen]
    · rw [splice_take (by rw [hlen]; omega), splice_take2 (by rw [HCL.out]; omega) (by rw [List.length_drop, HFL.out]; have := HJ.out; have := HK.out; omega), take_of_take HTK.out (by omega), HER.out]
end
end Go.Proofs.YtnpcgegcoakbmaaDoor
