import Derived.Test.YtibolgpaolnheaaQF
import Derived.Lib.AppendZerosOnto
import Derived.Lib.Overlaps
namespace Go.Proofs.Ytibolgpaolnheaa
set_option linter.unusedVariables false
set_option linter.unusedSimpArgs false
open Go.RowKit
abbrev tPsl : TypeId := 71
theorem zero_pg (u : World) : (zeroValue tPg).run Try.prog u = .ok (.slice none 0 0) u := by
  obtain ⟨i0, hi, hz0, hz1, hz2⟩ := info_parts info_pg
  simp [zeroValue, typeInfo, hi, hz0]
/-- a row of slices that is known whole -/
def RowL (w : World) (g : Nat) (cur : List Value) : Prop := w.heap[g]? = some (.cells cur.toArray tPg (0, 0))
theorem row_open {w : World} {B g n cap : Nat} {vs : List Value} (h : w.ownsRow B tPg 1 (.slice (some ⟨g, 0, none⟩) n cap) n vs) : ∃ cur, RowL w g cur ∧ cur.length = cap ∧ cur.take n = vs ∧ n ≤ cap ∧ cap ≤ maxLen ∧ vs.length = n ∧ B ≤ g := by
  rcases h.2 with ⟨e, -⟩ | ⟨g', cap', cur, e, hB, hg, hn, hm, hs, ht⟩
  · cases e
  · cases e
    exact ⟨cur.toList, by unfold RowL; simpa using hg, by simpa using hs, by simpa using ht, hn, hm, by simpa using h.1, hB⟩
theorem row_shut {w : World} {B g n cap : Nat} {cur vs : List Value} (h : RowL w g cur) (hl : cur.length = cap) (ht : cur.take n = vs) (hn : n ≤ cap) (hm : cap ≤ maxLen) (hB : B ≤ g) : w.ownsRow B tPg 1 (.slice (some ⟨g, 0, none⟩) n cap) n vs := by
  refine ⟨?_, .inr ⟨g, cap, cur.toArray, rfl, hB, h, hn, hm, by simpa using hl, by simpa using ht⟩⟩
  rw [← ht, List.length_take]; omega
theorem RowL.cell {w : World} {g : Nat} {cur : List Value} (h : RowL w g cur) (k : Nat) : w.cell? ⟨g, k, none⟩ = cur[k]? := by
  rw [cell_of_row _ _ _ _ _ _ h]; simp
theorem RowL.thawed {w : World} {g : Nat} {cur : List Value} (h : RowL w g cur) (k : Nat) : w.frozen? ⟨g, k, none⟩ = false := by
  unfold RowL at h
  simp [World.frozen?, h]
theorem RowL.drew {w : World} {g : Nat} {cur : List Value} (h : RowL w g cur) : RowL w.drew g cur := h
theorem splice_cons {α : Type} (cur : List α) (k : Nat) (v : α) (r : List α) (hk : k < cur.length) : splice cur k (v :: r) = splice (cur.set k v) (k + 1) r := by
  unfold splice
  apply List.ext_getElem?
  intro j
  simp only [List.getElem?_append, List.length_take, List.length_set, List.length_cons, List.getElem?_take, List.getElem?_set, List.getElem?_drop, List.getElem?_cons]
  grind
theorem row_setCells {g : Nat} : ∀ (cs : List Value) (k : Nat) (w : World) (cur : List Value), RowL w g cur → k + cs.length ≤ cur.length → RowL (w.setCells g k cs) g (splice cur k cs) ∧ w.grownBy (w.setCells g k cs) (some g)
  | [], k, w, cur, h, _ => ⟨by have e : splice cur k ([] : List Value) = cur := (by unfold splice; simp); rw [e]; exact h, ⟨rfl, rfl, rfl, Nat.le_refl _, fun _ _ _ => rfl⟩⟩
  | v :: r, k, w, cur, h, hk => by
    have h1 : RowL (w.setCell ⟨g, k, none⟩ v) g (cur.set k v) := by
      unfold RowL
      rw [heap_setCell_same w g k _ tPg v h]
      simp
    obtain ⟨h2, h3⟩ := row_setCells r (k + 1) (w.setCell ⟨g, k, none⟩ v) (cur.set k v) h1 (by simp at hk ⊢; omega)
    rw [World.setCells, splice_cons cur k v r (by simp at hk; omega)]
    refine ⟨h2, ⟨h3.os, h3.tape, h3.output, by have := h3.size; simpa using this, fun i hi hne => ?_⟩⟩
    rw [h3.block i (by simpa using hi) hne]
    exact heap_setCell_other w ⟨g, k, none⟩ i v (fun e => hne (by simp [e]))
theorem grow_row {w : World} {g : Nat} (cs : Array Value) : w.grownBy (w.setRow g cs) (some g) := ⟨rfl, rfl, rfl, by simp [World.setRow], fun k _ hne => setRow_other w g k cs (fun e => hne (by simp [e]))⟩
theorem grow_trans {a b c : World} {r : Option Nat} (h : a.grownBy b r) (k : b.grownBy c r) : a.grownBy c r := ⟨k.os.trans h.os, k.tape.trans h.tape, k.output.trans h.output, Nat.le_trans h.size k.size, fun i hi hn => (k.block i (Nat.lt_of_lt_of_le hi h.size) hn).trans (h.block i hi hn)⟩
theorem grow_drew {w : World} {r : Option Nat} : w.grownBy w.drew r := ⟨rfl, rfl, rfl, Nat.le_refl _, fun _ _ _ => rfl⟩
theorem grow_alloc {w : World} {r : Option Nat} (o : Obj) : w.grownBy (w.alloc o) r := World.grownBy_alloc w o r
/-- append into the room that there is -/
theorem wpo_room {w : World} {o : Oper} {a : Act} {K : Act → World → Prop} {Q : Exit → Act → World → Prop} (s x : Operand)
    (ho : o.op = .call { callee := .builtin .append, args := #[s, x], argTypes := #[tPsl, tPsl] }) (g i cap : Nat) (cur : List Value) (hg : RowL w g cur) (hs : a.eval s = .slice (some ⟨g, 0, none⟩) i cap)
    (ad : Addr) (m c : Nat) (hx : a.eval x = .slice (some ad) m c) (news : List Value) (hl : news.length = m) (hnews : ∀ j u, news[j]? = some u → w.cell? (ad.add j) = some u) (h1 : ∀ u ∈ news, u.oneCell' = true)
    (hroom : i + m ≤ cap) (hcap : cur.length = cap) (L : Nat) (hL : i + m = L)
    (h : ∀ w', RowL w' g (splice cur i news) → w.grownBy w' (some g) → K (a.put o.dst (.slice (some ⟨g, 0, none⟩) L cap)) w') : o.wp Try.prog a w K Q := by
  subst hL
  obtain ⟨i0, hi, hz0, hz1, hz2⟩ := info_parts info_pg
  have hr := run_append_room (P := Try.prog) w tPsl o.type tPg i0 Try.underlying71 hi g i cap cur.toArray hg ad m c news (by rw [hz1, Nat.mul_one]; exact hl) hnews h1 hroom (by rw [hz1, Nat.mul_one, List.size_toArray]; omega)
  unfold Oper.wp execOp
  simp only [ho, resolve, invoke, builtin, Sem.run_bind, Sem.run_pure, Result.andThen_ok, List.map_toArray, List.map_cons, List.map_nil, hs, hx, hr]
  refine h _ ?_ (grow_row _)
  unfold RowL
  rw [setRow_heap w g _ _ tPg _ hg, hz1, Nat.mul_one]
  simp [splice]
theorem wpl_room {w : World} {ops : Array Oper} {rest : List Oper} {o : Oper} {a : Act} {Q : Exit → Act → World → Prop} (hgd : o.guard = none) (s x : Operand)
    (ho : o.op = .call { callee := .builtin .append, args := #[s, x], argTypes := #[tPsl, tPsl] }) (g i cap : Nat) (cur : List Value) (hg : RowL w g cur) (hs : a.eval s = .slice (some ⟨g, 0, none⟩) i cap)
    (ad : Addr) (m c : Nat) (hx : a.eval x = .slice (some ad) m c) (news : List Value) (hl : news.length = m) (hnews : ∀ j u, news[j]? = some u → w.cell? (ad.add j) = some u) (h1 : ∀ u ∈ news, u.oneCell' = true)
    (hroom : i + m ≤ cap) (hcap : cur.length = cap) (L : Nat) (hL : i + m = L)
    (h : ∀ w', RowL w' g (splice cur i news) → w.grownBy w' (some g) → wpList Try.prog ops Q rest (a.put o.dst (.slice (some ⟨g, 0, none⟩) L cap)) w') : wpList Try.prog ops Q (o :: rest) a w :=
  wpList_plain hgd fun _ hK => wpo_room s x ho g i cap cur hg hs ad m c hx news hl hnews h1 hroom hcap L hL fun w' h2 h3 => hK _ _ (h w' h2 h3)
/-- clear of some places of a row -/
theorem wpl_clear {w : World} {ops : Array Oper} {rest : List Oper} {o : Oper} {a : Act} {Q : Exit → Act → World → Prop} (hgd : o.guard = none) (x : Operand)
    (ho : o.op = .call { callee := .builtin .clear, args := #[x], argTypes := #[tPsl] }) (g k m c : Nat) (hx : a.eval x = .slice (some ⟨g, k, none⟩) m c) (cur : List Value) (hg : RowL w g cur) (hm : 0 < m) (hk : k + m ≤ cur.length)
    (h : ∀ w', RowL w' g (splice cur k (List.replicate m (.slice none 0 0))) → w.grownBy w' (some g) → wpList Try.prog ops Q rest (a.put o.dst (.tuple #[])) w') : wpList Try.prog ops Q (o :: rest) a w := by
  refine wpList_plain hgd fun K hK => ?_
  have hr := Lib.run_clear_slice (P := Try.prog) w tPsl tPg o.type (.slice none 0 0) Try.underlying71 zero_pg rfl rfl g k m c hm (fun j hj => by rw [hg.cell, List.getElem?_eq_getElem (by omega)]; rfl) (fun j hj => hg.thawed _)
  unfold Oper.wp execOp
  simp only [ho, resolve, invoke, builtin, Sem.run_bind, Sem.run_pure, Result.andThen_ok, List.map_toArray, List.map_cons, List.map_nil, hx, hr]
  obtain ⟨h2, h3⟩ := row_setCells (g := g) (List.replicate m (.slice none 0 0)) k w cur hg (by simpa using hk)
  exact hK _ _ (h _ h2 h3)
theorem clear_run {w : World} {g k m : Nat} {cur : List Value} (hg : RowL w g cur) (hm : 0 < m) (hk : k + m ≤ cur.length) :
    ∃ w', (∀ ty c, (Builtin.clear_ #[tPsl] ty #[.slice (some ⟨g, k, none⟩) m c]).run Try.prog w = .ok (.tuple #[]) w') ∧ RowL w' g (splice cur k (List.replicate m (.slice none 0 0))) ∧ w.grownBy w' (some g) := by
  obtain ⟨h2, h3⟩ := row_setCells (g := g) (List.replicate m (.slice none 0 0)) k w cur hg (by simpa using hk)
  exact ⟨_, fun ty c => Lib.run_clear_slice (P := Try.prog) w tPsl tPg ty (.slice none 0 0) Try.underlying71 zero_pg rfl rfl g k m c hm (fun j hj => by rw [hg.cell, List.getElem?_eq_getElem (by omega)]; rfl) (fun j hj => hg.thawed _), h2, h3⟩
/-- copy into a row -/
theorem wpo_copy {w : World} {o : Oper} {a : Act} {K : Act → World → Prop} {Q : Exit → Act → World → Prop} (d s : Operand)
    (ho : o.op = .call { callee := .builtin .copy, args := #[d, s], argTypes := #[tPsl, tPsl] }) (g off dLen dCap : Nat) (ad : Addr) (sLen sCap : Nat) (hd : a.eval d = .slice (some ⟨g, off, none⟩) dLen dCap) (hs : a.eval s = .slice (some ad) sLen sCap)
    (cur : List Value) (hg : RowL w g cur) (cs : List Value) (hn : cs.length = Nat.min sLen dLen) (hsrc : ∀ j v, cs[j]? = some v → w.cell? (ad.add j) = some v) (hfit : off + cs.length ≤ cur.length) (h1 : ∀ v ∈ cs, v.oneCell' = true)
    (h : ∀ w', RowL w' g (splice cur off cs) → w.grownBy w' (some g) → K (a.put o.dst (goInt cs.length)) w') : o.wp Try.prog a w K Q := by
  obtain ⟨i0, hi, hz0, hz1, hz2⟩ := info_parts info_pg
  have hrun := run_copy_row (P := Try.prog) w tPsl tPsl o.type tPg g off dLen dCap ad sLen sCap cur.toArray tPg cs Try.underlying71 (by rw [hi]; simp [hz1]) hg hn hsrc (by simpa using hfit) h1
  unfold Oper.wp
  simp [execOp, ho, resolve, invoke, builtin, hd, hs, hrun, Result.andThen]
  refine h _ ?_ (grow_row _)
  unfold RowL
  have e := setRow_heap w g _ (cur.take off ++ (cs ++ cur.drop (off + cs.length))).toArray tPg _ hg
  simpa [splice] using e
theorem wpl_copy {w : World} {ops : Array Oper} {rest : List Oper} {o : Oper} {a : Act} {Q : Exit → Act → World → Prop} (hgd : o.guard = none) (d s : Operand)
    (ho : o.op = .call { callee := .builtin .copy, args := #[d, s], argTypes := #[tPsl, tPsl] }) (g off dLen dCap : Nat) (ad : Addr) (sLen sCap : Nat) (hd : a.eval d = .slice (some ⟨g, off, none⟩) dLen dCap) (hs : a.eval s = .slice (some ad) sLen sCap)
    (cur : List Value) (hg : RowL w g cur) (cs : List Value) (hn : cs.length = Nat.min sLen dLen) (hsrc : ∀ j v, cs[j]? = some v → w.cell? (ad.add j) = some v) (hfit : off + cs.length ≤ cur.length) (h1 : ∀ v ∈ cs, v.oneCell' = true)
    (h : ∀ w', RowL w' g (splice cur off cs) → w.grownBy w' (some g) → wpList Try.prog ops Q rest (a.put o.dst (goInt cs.length)) w') : wpList Try.prog ops Q (o :: rest) a w :=
  wpList_plain hgd fun _ hK => wpo_copy d s ho g off dLen dCap ad sLen sCap hd hs cur hg cs hn hsrc hfit h1 fun w' h2 h3 => hK _ _ (h w' h2 h3)
theorem copy_run {w : World} {g off dLen sLen sCap : Nat} {ad : Addr} {cur : List Value} (hg : RowL w g cur) (cs : List Value) (hn : cs.length = Nat.min sLen dLen) (hsrc : ∀ j v, cs[j]? = some v → w.cell? (ad.add j) = some v) (hfit : off + cs.length ≤ cur.length) (h1 : ∀ v ∈ cs, v.oneCell' = true) :
    ∃ w', (∀ ty dc, (Builtin.copy_ #[tPsl, tPsl] ty #[.slice (some ⟨g, off, none⟩) dLen dc, .slice (some ad) sLen sCap]).run Try.prog w = .ok (goInt cs.length) w') ∧ RowL w' g (splice cur off cs) ∧ w.grownBy w' (some g) := by
  obtain ⟨i0, hi, hz0, hz1, hz2⟩ := info_parts info_pg
  refine ⟨_, fun ty dc => run_copy_row (P := Try.prog) w tPsl tPsl ty tPg g off dLen dc ad sLen sCap cur.toArray tPg cs Try.underlying71 (by rw [hi]; simp [hz1]) hg hn hsrc (by simpa using hfit) h1, ?_, grow_row _⟩
  unfold RowL
  have e := setRow_heap w g _ (cur.take off ++ (cs ++ cur.drop (off + cs.length))).toArray tPg _ hg
  simpa [splice] using e
/-- some neighbouring places of a row are read where they lie -/
theorem RowL.src {w : World} {g : Nat} {cur : List Value} (h : RowL w g cur) (k m : Nat) : ∀ j u, ((cur.drop k).take m)[j]? = some u → w.cell? ((⟨g, k, none⟩ : Addr).add j) = some u := fun j u hu => by
  rw [Go.WideShapes.add_plain, h.cell]
  rw [List.getElem?_take] at hu
  split at hu
  · rw [List.getElem?_drop] at hu; exact hu
  · cases hu
end Go.Proofs.Ytibolgpaolnheaa
namespace Go.Proofs.Ytibolgpaolnheaa
set_option linter.unusedVariables false
set_option linter.unusedSimpArgs false
open Go.RowKit
theorem splice_take {α : Type} {X Y : List α} {k : Nat} (h : k ≤ X.length) : (splice X k Y).take k = X.take k := by
  unfold splice
  rw [List.take_append_of_le_length (by rw [List.length_take]; omega), List.take_take, Nat.min_self]
theorem splice_take2 {α : Type} {X Y : List α} {k m : Nat} (h : k ≤ X.length) (hm : m = k + Y.length) : (splice X k Y).take m = X.take k ++ Y := by
  unfold splice
  rw [← List.append_assoc, List.take_append_of_le_length (by rw [List.length_append, List.length_take]; omega), List.take_of_length_le (by rw [List.length_append, List.length_take]; omega)]
theorem splice_len {α : Type} {X Y : List α} {k : Nat} (h : k + Y.length ≤ X.length) : (splice X k Y).length = X.length := length_splice X k Y h
theorem take_of_take {α : Type} {cur vs : List α} {n i : Nat} (h : cur.take n = vs) (hi : i ≤ n) : cur.take i = vs.take i := by
  rw [← h, List.take_take, Nat.min_eq_left hi]
section
set_option maxRecDepth 20000
set_option maxHeartbeats 3200000
/-- slices.Delete of one page -/
theorem delete_t {w : World} {g n cap : Nat} {vs : List Value} (h : w.ownsRow 0 tPg 1 (.slice (some ⟨g, 0, none⟩) n cap) n vs) (hu : ∀ u ∈ vs, u.oneCell' = true) (i j k : Nat) (hj : j = i + 1) (hi : i < n) (hk : k + 1 = n) (hl : n ≤ 4398046511104) :
    Calls Try.prog 39 #[.slice (some ⟨g, 0, none⟩) n cap, .int .i64 (i : Int), .int .i64 (j : Int)] w fun e w' => e = .returned (.slice (some ⟨g, 0, none⟩) k cap) ∧ w'.ownsRow 0 tPg 1 (.slice (some ⟨g, 0, none⟩) k cap) k (repL vs i j []) ∧ w.grownBy w' (some g) := by
  obtain ⟨cur, hrow, hcl, htk, hnc, hcm, hvl, -⟩ := row_open h
  have HROW : Hid _ := hrow
  have HCL : Hid _ := hcl
  have HTK : Hid _ := htk
  have HCM : Hid _ := hcm
  have HVL : Hid _ := hvl
  have HU : Hid _ := hu
  have hi0 : (0 : Int) ≤ (i : Int) := by omega
  have hj0 : (0 : Int) ≤ (j : Int) := by omega
  have hij : (i : Int) ≤ (j : Int) := by omega
  have hjn : (j : Int) ≤ (n : Int) := by omega
  have hin : (i : Int) ≤ (n : Int) := by omega
  have hncI : (n : Int) ≤ (cap : Int) := by omega
  have hjc : (j : Int) ≤ (cap : Int) := by omega
  have hic : (i : Int) ≤ (cap : Int) := by omega
  have hijn : i ≤ j := by omega
  have hjnn : j ≤ n := by omega
  have hicn : i ≤ cap := by omega
  have hjcn : j ≤ cap := by omega
  have hci : ¬ cap = i := by omega
  have hni : ¬ n = i := by omega
  have hne : ¬ (i : Int) = (j : Int) := by omega
  have hneb : ((i : Int) == (j : Int)) = false := by simpa using hne
  have hkn : (k : Int) ≤ (n : Int) := by omega
  have hk0 : (0 : Int) ≤ (k : Int) := by omega
  have hkc : ¬ cap = k := by omega
  have hkcI : (k : Int) ≤ (cap : Int) := by omega
  have hknn : k ≤ n := by omega
  have HJ : Hid (j = i + 1) := hj
  have HK : Hid (k + 1 = n) := hk
  clear h hrow hcl htk hcm hvl hu hj hk
  by_cases hcj : cap = j
  · obtain rfl : n = j := by omega
    subst hcj
    go_enter Try.func39, Try.ntmps39
    go_wp2_with fail
    refine wp_region_noPanic ?_
    refine wp_region_held_drew (S := (fun _ => True)) (by kernel_rfl) (by exact trivial) (fun hHeld => ?_)
    refine take_at (i := 0) 20 (v := ?_) rfl rfl (by kernel_rfl) (by kernel_rfl) (by kernel_rfl) (fun _ _ _ h => h) (by rfl) ?_ hHeld ?_
    rotate_left
    · (intro w hSw; (try dsimp only at hSw); go_simp; try with_reducible rfl)
    simp only [Act.put, List.setIfInBounds_toArray, List.set_cons_zero, List.set_cons_succ]
    refine take_at (i := 1) 21 (v := ?_) rfl rfl (by kernel_rfl) (by kernel_rfl) (by kernel_rfl) (fun _ _ _ h => h) (by rfl) ?_ hHeld ?_
    rotate_left
    · (intro w hSw; (try dsimp only at hSw); go_simp; try with_reducible rfl)
    simp only [Act.put, List.setIfInBounds_toArray, List.set_cons_zero, List.set_cons_succ]
    refine take_at (i := 2) 22 (v := ?_) rfl rfl (by kernel_rfl) (by kernel_rfl) (by kernel_rfl) (fun _ _ _ h => h) (by rfl) ?_ hHeld ?_
    rotate_left
    · (intro w hSw; (try dsimp only at hSw); go_simp; try with_reducible rfl)
    simp only [Act.put, List.setIfInBounds_toArray, List.set_cons_zero, List.set_cons_succ]
    refine take_at (i := 3) 23 (v := ?_) rfl rfl (by kernel_rfl) (by kernel_rfl) (by kernel_rfl) (fun _ _ _ h => h) (by rfl) ?_ hHeld ?_
    rotate_left
    · (intro w hSw; (try dsimp only at hSw); go_simp; try with_reducible rfl)
    simp only [Act.put, List.setIfInBounds_toArray, List.set_cons_zero, List.set_cons_succ]
    refine take_at (i := 4) 24 (v := ?_) rfl rfl (by kernel_rfl) (by kernel_rfl) (by kernel_rfl) (fun _ _ _ h => h) (by rfl) ?_ hHeld ?_
    rotate_left
    · (intro w hSw; (try dsimp only at hSw); go_simp; try with_reducible rfl)
    simp only [Act.put, List.setIfInBounds_toArray, List.set_cons_zero, List.set_cons_succ]
    refine take_at (i := 5) 25 (v := ?_) rfl rfl (by kernel_rfl) (by kernel_rfl) (by kernel_rfl) (fun _ _ _ h => h) (by rfl) ?_ hHeld ?_
    rotate_left
    · (intro w hSw; (try dsimp only at hSw); go_simp; try with_reducible rfl)
    simp only [Act.put, List.setIfInBounds_toArray, List.set_cons_zero, List.set_cons_succ]
    refine run_at (i := 6) rfl (by kernel_rfl) (by rfl) (fun K hK => ?_)
    simp only [List.getElem_toArray, List.getElem_cons_zero, List.getElem_cons_succ]
    (refine wpo_room _ _ rfl g i cap cur (RowL.drew HROW.out) rfl _ _ _ rfl (vs.drop cap) (by rw [List.length_drop, HVL.out]; omega) (fun t u ht => by rw [List.drop_eq_nil_of_le (by have := HVL.out; omega)] at ht; simp at ht) (fun u hx => HU.out u (List.mem_of_mem_drop hx)) (by omega) HCL.out k (by have := HJ.out; have := HK.out; omega) ?_; intro w2 hr2 hg2; have HR2 : Hid _ := hr2; have HG2 : Hid _ := hg2; clear hr2 hg2)
    refine hK.out _ _ (by exact trivial) ?_
    clear hK K
    intro hHeld2
    clear hHeld
    have hHeld := hHeld2
    clear hHeld2
    try simp only [Act.put, List.setIfInBounds_toArray, List.set_cons_zero, List.set_cons_succ]
    refine take_at (i := 7) 0 (v := ?_) rfl rfl (by kernel_rfl) (by kernel_rfl) (by kernel_rfl) (fun _ _ _ h => h) (by rfl) ?_ hHeld ?_
    rotate_left
    · (intro w hSw; (try dsimp only at hSw); go_simp; try with_reducible rfl)
    simp only [Act.put, List.setIfInBounds_toArray, List.set_cons_zero, List.set_cons_succ]
    refine wpAnyH_done (by kernel_rfl) ?_ _
    refine NoPanic.normal ?_
    obtain ⟨w3, hcl, hr3, hg3⟩ := clear_run (k := k) (m := cap - k) HR2.out (by have := HK.out; omega) (by rw [splice_len (by rw [List.length_drop, HVL.out, HCL.out]; have := HJ.out; omega), HCL.out]; omega)
    have HR3 : Hid _ := hr3
    have HG3 : Hid _ := hg3
    clear hr3 hg3
    go_wp2
    go_ret
    have hlen : (splice cur i (vs.drop cap)).length = cap := by rw [splice_len (by rw [List.length_drop, HVL.out, HCL.out]; omega), HCL.out]
    refine ⟨rfl, row_shut HR3.out ?_ ?_ (by omega) HCM.out (Nat.zero_le _), grow_trans grow_drew (grow_trans HG2.out HG3.out)⟩
    · rw [splice_len (by rw [List.length_replicate, hlen]; have := HK.out; omega), hlen]
    · rw [splice_take (by rw [hlen]; omega), splice_take2 (by rw [HCL.out]; omega) (by rw [List.length_drop, HVL.out]; have := HJ.out; have := HK.out; omega), take_of_take HTK.out (by omega)]
      unfold repL
      simp
  · have hcj2 : ¬ n = j ∨ n = j := by omega
    go_enter Try.func39, Try.ntmps39
    go_wp2_with fail
    refine wp_region_noPanic ?_
    refine wp_region_held_drew (S := (fun _ => True)) (by kernel_rfl) (by exact trivial) (fun hHeld => ?_)
    refine take_at (i := 0) 20 (v := ?_) rfl rfl (by kernel_rfl) (by kernel_rfl) (by kernel_rfl) (fun _ _ _ h => h) (by rfl) ?_ hHeld ?_
    rotate_left
    · (intro w hSw; (try dsimp only at hSw); go_simp; try with_reducible rfl)
    simp only [Act.put, List.setIfInBounds_toArray, List.set_cons_zero, List.set_cons_succ]
    refine take_at (i := 1) 21 (v := ?_) rfl rfl (by kernel_rfl) (by kernel_rfl) (by kernel_rfl) (fun _ _ _ h => h) (by rfl) ?_ hHeld ?_
    rotate_left
    · (intro w hSw; (try dsimp only at hSw); go_simp; try with_reducible rfl)
    simp only [Act.put, List.setIfInBounds_toArray, List.set_cons_zero, List.set_cons_succ]
    refine take_at (i := 2) 22 (v := ?_) rfl rfl (by kernel_rfl) (by kernel_rfl) (by kernel_rfl) (fun _ _ _ h => h) (by rfl) ?_ hHeld ?_
    rotate_left
    · (intro w hSw; (try dsimp only at hSw); go_simp; try with_reducible rfl)
    simp only [Act.put, List.setIfInBounds_toArray, List.set_cons_zero, List.set_cons_succ]
    refine take_at (i := 3) 23 (v := ?_) rfl rfl (by kernel_rfl) (by kernel_rfl) (by kernel_rfl) (fun _ _ _ h => h) (by rfl) ?_ hHeld ?_
    rotate_left
    · (intro w hSw; (try dsimp only at hSw); go_simp; try with_reducible rfl)
    simp only [Act.put, List.setIfInBounds_toArray, List.set_cons_zero, List.set_cons_succ]
    refine take_at (i := 4) 24 (v := ?_) rfl rfl (by kernel_rfl) (by kernel_rfl) (by kernel_rfl) (fun _ _ _ h => h) (by rfl) ?_ hHeld ?_
    rotate_left
    · (intro w hSw; (try dsimp only at hSw); go_simp; try with_reducible rfl)
    simp only [Act.put, List.setIfInBounds_toArray, List.set_cons_zero, List.set_cons_succ]
    refine take_at (i := 5) 25 (v := ?_) rfl rfl (by kernel_rfl) (by kernel_rfl) (by kernel_rfl) (fun _ _ _ h => h) (by rfl) ?_ hHeld ?_
    rotate_left
    · (intro w hSw; (try dsimp only at hSw); go_simp; try with_reducible rfl)
    simp only [Act.put, List.setIfInBounds_toArray, List.set_cons_zero, List.set_cons_succ]
    refine run_at (i := 6) rfl (by kernel_rfl) (by rfl) (fun K hK => ?_)
    simp only [List.getElem_toArray, List.getElem_cons_zero, List.getElem_cons_succ]
    (refine wpo_room _ _ rfl g i cap cur (RowL.drew HROW.out) rfl _ _ _ rfl (vs.drop j) (by rw [List.length_drop, HVL.out]) (fun t u ht => RowL.src (RowL.drew HROW.out) j (n - j) t u (by rw [← HTK.out, List.drop_take] at ht; exact ht)) (fun u hx => HU.out u (List.mem_of_mem_drop hx)) (by omega) HCL.out k (by have := HJ.out; have := HK.out; omega) ?_; intro w2 hr2 hg2; have HR2 : Hid _ := hr2; have HG2 : Hid _ := hg2; clear hr2 hg2)
    refine hK.out _ _ (by exact trivial) ?_
    clear hK K
    intro hHeld2
    clear hHeld
    have hHeld := hHeld2
    clear hHeld2
    try simp only [Act.put, List.setIfInBounds_toArray, List.set_cons_zero, List.set_cons_succ]
    refine take_at (i := 7) 0 (v := ?_) rfl rfl (by kernel_rfl) (by kernel_rfl) (by kernel_rfl) (fun _ _ _ h => h) (by rfl) ?_ hHeld ?_
    rotate_left
    · (intro w hSw; (try dsimp only at hSw); go_simp; try with_reducible rfl)
    simp only [Act.put, List.setIfInBounds_toArray, List.set_cons_zero, List.set_cons_succ]
    refine wpAnyH_done (by kernel_rfl) ?_ _
    refine NoPanic.normal ?_
    obtain ⟨w3, hcl, hr3, hg3⟩ := clear_run (k := k) (m := n - k) HR2.out (by have := HK.out; omega) (by rw [splice_len (by rw [List.length_drop, HVL.out, HCL.out]; have := HJ.out; omega), HCL.out]; omega)
    have HR3 : Hid _ := hr3
    have HG3 : Hid _ := hg3
    clear hr3 hg3
    go_wp2
    go_ret
    have hlen : (splice cur i (vs.drop j)).length = cap := by rw [splice_len (by rw [List.length_drop, HVL.out, HCL.out]; omega), HCL.out]
    refine ⟨rfl, row_shut HR3.out ?_ ?_ (by omega) HCM.out (Nat.zero_le _), grow_trans grow_drew (grow_trans HG2.out HG3.out)⟩
    · rw [splice_len (by rw [List.length_replicate, hlen]; have := HK.out; omega), hlen]
    · rw [splice_take (by rw [hlen]; omega), splice_take2 (by rw [HCL.out]; omega) (by rw [List.length_drop, HVL.out]; have := HJ.out; have := HK.out; omega), take_of_take HTK.out (by omega)]
      unfold repL
      simp
end
end Go.Proofs.Ytibolgpaolnheaa
namespace Go.Proofs.Ytibolgpaolnheaa
set_option linter.unusedVariables false
set_option linter.unusedSimpArgs false
open Go.RowKit
section
set_option maxRecDepth 20000
set_option maxHeartbeats 3200000
variable {w : World} {g n cap : Nat} {vs : List Value}
theorem row_pre (h : w.ownsRow 0 tPg 1 (.slice (some ⟨g, 0, none⟩) n cap) n vs) (i : Nat) (hi : i ≤ n) : w.ownsRow 0 tPg 1 (.slice (some ⟨g, 0, none⟩) i cap) i (vs.take i) := by
  obtain ⟨cur, h1, h2, h3, h4, h5, h6, -⟩ := row_open h
  exact row_shut h1 h2 (take_of_take h3 hi) (by omega) h5 (Nat.zero_le _)
theorem news2 {gv : Nat} {x y : Value} (hgv : w.heap[gv]? = some (.cells #[x, y] tPg (0, 0))) : ∀ t u, [x, y][t]? = some u → w.cell? ((⟨gv, 0, none⟩ : Addr).add t) = some u := World.news_of_block hgv
/-- the last page becomes two -/
theorem splitA (h : w.ownsRow 0 tPg 1 (.slice (some ⟨g, 0, none⟩) n cap) n vs) (i : Nat) (hn : n = i + 1) (gv : Nat) (x y : Value) (hgv : w.heap[gv]? = some (.cells #[x, y] tPg (0, 0))) (hx1 : x.oneCell' = true) (hy1 : y.oneCell' = true) (hl : n ≤ 4398046511104) :
    Calls Try.prog 60 #[.slice (some ⟨g, 0, none⟩) n cap, .int .i64 (i : Int), .int .i64 (n : Int), .slice (some ⟨gv, 0, none⟩) 2 2] w fun e w' => ∃ g' cap', e = .returned (.slice (some ⟨g', 0, none⟩) (n + 1) cap') ∧ w'.ownsRow 0 tPg 1 (.slice (some ⟨g', 0, none⟩) (n + 1) cap') (n + 1) (repL vs i n [x, y]) ∧ w.grownBy w' (some g) ∧ (g' = g ∨ w.heap.size ≤ g') := by
  obtain ⟨cur, hrow, hcl, htk, hnc, hcm, hvl, -⟩ := row_open h
  obtain ⟨i0, hi, hz0, hz1, hz2⟩ := info_parts info_pg
  have HOW : Hid _ := row_pre h i (by omega)
  have HVL : Hid _ := hvl
  have HGV : Hid _ := news2 hgv
  have HONE : Hid (∀ u ∈ [x, y], u.oneCell' = true) := fun u hu => by
    rcases List.mem_cons.1 hu with rfl | hu
    · exact hx1
    · obtain rfl := List.mem_singleton.1 hu; exact hy1
  have hi0 : (0 : Int) ≤ (i : Int) := by omega
  have hin : (i : Int) ≤ (n : Int) := by omega
  have hinn : i ≤ n := by omega
  have hncI : (n : Int) ≤ (cap : Int) := by omega
  have hic : (i : Int) ≤ (cap : Int) := by omega
  have hicn : i ≤ cap := by omega
  have hci : ¬ cap = i := by omega
  have hne : ¬ (i : Int) = (n : Int) := by omega
  have hneb : ((i : Int) == (n : Int)) = false := by simpa using hne
  have hlt : ¬ ((i : Int) + 2 < (n : Int)) := by omega
  have HN : Hid (n = i + 1) := hn
  clear h hrow hcl htk hcm hvl hgv hx1 hy1 hn
  go_enter Try.func60, Try.ntmps60
  go_wp2_with (at_builtin; refine wpList_append_lies _ rfl _ _ tPsl rfl 0 tPg i0 _ 1 24 Try.underlying71 hi hz0 hz1 hz2 rfl (by decide) (.slice (some ⟨g, 0, none⟩) i cap) i (vs.take i) rfl HOW.out ⟨gv, 0, none⟩ 2 2 [x, y] rfl rfl HGV.out HONE.out (by decide) (by simp only [maxLen]; omega) (by omega) (Nat.zero_le _) w.heap.size rfl ?_; intro g5 cap5 w5 hown5 hg5 hl5 _; have HO5 : Hid _ := hown5; have HG5 : Hid _ := hg5; have HL5 : Hid _ := hl5; clear hown5 hg5 hl5)
  go_ret
  have e : i + 2 = n + 1 := by have := HN.out; omega
  have ho := HO5.out
  rw [e] at ho ⊢
  refine ⟨g5, cap5, rfl, ?_, HG5.out, ?_⟩
  · have e2 : repL vs i n [x, y] = vs.take i ++ [x, y] := by
      unfold repL
      rw [List.drop_eq_nil_of_le (by rw [HVL.out]; exact Nat.le_refl _), List.append_nil]
    rw [e2]; exact ho
  · rcases HL5.out with e9 | e9
    · left; cases e9; rfl
    · right; omega
end
end Go.Proofs.Ytibolgpaolnheaa
