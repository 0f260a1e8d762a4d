import Derived.Test.YtibolgpaolnheaaQD3
import Derived.Test.YtibolgpaolnheaaZQU
import Derived.Test.YtibolgpaolnheaaZQF
import Derived.Lib.AppendZerosOnto
import Derived.Lib.Overlaps
namespace Go.Proofs.Ytibolgpaolnheaa.Str
set_option linter.unusedVariables false
set_option linter.unusedSimpArgs false
open Go.RowKit
abbrev tPsl : TypeId := 68
theorem zero_pg (u : World) : (zeroValue tPg).run Try.prog u = .ok (.slice none 0 0) u := by
  obtain ⟨i0, hi, hz0, hz1, hz2⟩ := info_parts info_pg
  simp [zeroValue, typeInfo, hi, hz0]
/-- a row of slices that is known whole -/
def RowL (w : World) (g : Nat) (cur : List Value) : Prop := w.heap[g]? = some (.cells cur.toArray tPg (0, 0))
theorem row_open {w : World} {B g n cap : Nat} {vs : List Value} (h : w.ownsRow B tPg 1 (.slice (some ⟨g, 0, none⟩) n cap) n vs) : ∃ cur, RowL w g cur ∧ cur.length = cap ∧ cur.take n = vs ∧ n ≤ cap ∧ cap ≤ maxLen ∧ vs.length = n ∧ B ≤ g := by
  rcases h.2 with ⟨e, -⟩ | ⟨g', cap', cur, e, hB, hg, hn, hm, hs, ht⟩
  · cases e
  · cases e
    exact ⟨cur.toList, by unfold RowL; simpa using hg, by simpa using hs, by simpa using ht, hn, hm, by simpa using h.1, hB⟩
theorem row_shut {w : World} {B g n cap : Nat} {cur vs : List Value} (h : RowL w g cur) (hl : cur.length = cap) (ht : cur.take n = vs) (hn : n ≤ cap) (hm : cap ≤ maxLen) (hB : B ≤ g) : w.ownsRow B tPg 1 (.slice (some ⟨g, 0, none⟩) n cap) n vs := by
  refine ⟨?_, .inr ⟨g, cap, cur.toArray, rfl, hB, h, hn, hm, by simpa using hl, by simpa using ht⟩⟩
  rw [← ht, List.length_take]; omega
theorem RowL.cell {w : World} {g : Nat} {cur : List Value} (h : RowL w g cur) (k : Nat) : w.cell? ⟨g, k, none⟩ = cur[k]? := by
  rw [cell_of_row _ _ _ _ _ _ h]; simp
theorem RowL.thawed {w : World} {g : Nat} {cur : List Value} (h : RowL w g cur) (k : Nat) : w.frozen? ⟨g, k, none⟩ = false := by
  unfold RowL at h
  simp [World.frozen?, h]
theorem RowL.drew {w : World} {g : Nat} {cur : List Value} (h : RowL w g cur) : RowL w.drew g cur := h
theorem row_setCells {g : Nat} : ∀ (cs : List Value) (k : Nat) (w : World) (cur : List Value), RowL w g cur → k + cs.length ≤ cur.length → RowL (w.setCells g k cs) g (splice cur k cs) ∧ w.grownBy (w.setCells g k cs) (some g)
  | [], k, w, cur, h, _ => ⟨by have e : splice cur k ([] : List Value) = cur := (by unfold splice; simp); rw [e]; exact h, ⟨rfl, rfl, rfl, Nat.le_refl _, fun _ _ _ => rfl⟩⟩
  | v :: r, k, w, cur, h, hk => by
    have h1 : RowL (w.setCell ⟨g, k, none⟩ v) g (cur.set k v) := by
      unfold RowL
      rw [heap_setCell_same w g k _ tPg v h]
      simp
    obtain ⟨h2, h3⟩ := row_setCells r (k + 1) (w.setCell ⟨g, k, none⟩ v) (cur.set k v) h1 (by simp at hk ⊢; omega)
    rw [World.setCells, splice_cons cur k v r (by simp at hk; omega)]
    refine ⟨h2, ⟨h3.os, h3.tape, h3.output, by have := h3.size; simpa using this, fun i hi hne => ?_⟩⟩
    rw [h3.block i (by simpa using hi) hne]
    exact heap_setCell_other w ⟨g, k, none⟩ i v (fun e => hne (by simp [e]))
/-- append into the room that there is -/
theorem wpo_room {w : World} {o : Oper} {a : Act} {K : Act → World → Prop} {Q : Exit → Act → World → Prop} (s x : Operand)
    (ho : o.op = .call { callee := .builtin .append, args := #[s, x], argTypes := #[tPsl, tPsl] }) (g i cap : Nat) (cur : List Value) (hg : RowL w g cur) (hs : a.eval s = .slice (some ⟨g, 0, none⟩) i cap)
    (ad : Addr) (m c : Nat) (hx : a.eval x = .slice (some ad) m c) (news : List Value) (hl : news.length = m) (hnews : ∀ j u, news[j]? = some u → w.cell? (ad.add j) = some u) (h1 : ∀ u ∈ news, u.oneCell' = true)
    (hroom : i + m ≤ cap) (hcap : cur.length = cap) (L : Nat) (hL : i + m = L)
    (h : ∀ w', RowL w' g (splice cur i news) → w.grownBy w' (some g) → K (a.put o.dst (.slice (some ⟨g, 0, none⟩) L cap)) w') : o.wp Try.prog a w K Q := by
  subst hL
  obtain ⟨i0, hi, hz0, hz1, hz2⟩ := info_parts info_pg
  have hr := run_append_room (P := Try.prog) w tPsl o.type tPg i0 Try.underlying68 hi g i cap cur.toArray hg ad m c news (by rw [hz1, Nat.mul_one]; exact hl) hnews h1 hroom (by rw [hz1, Nat.mul_one, List.size_toArray]; omega)
  unfold Oper.wp execOp
  simp only [ho, resolve, invoke, builtin, Sem.run_bind, Sem.run_pure, Result.andThen_ok, List.map_toArray, List.map_cons, List.map_nil, hs, hx, hr]
  refine h _ ?_ (grow_row _)
  unfold RowL
  rw [setRow_heap w g _ _ tPg _ hg, hz1, Nat.mul_one]
  simp [splice]
theorem wpl_room {w : World} {ops : Array Oper} {rest : List Oper} {o : Oper} {a : Act} {Q : Exit → Act → World → Prop} (hgd : o.guard = none) (s x : Operand)
    (ho : o.op = .call { callee := .builtin .append, args := #[s, x], argTypes := #[tPsl, tPsl] }) (g i cap : Nat) (cur : List Value) (hg : RowL w g cur) (hs : a.eval s = .slice (some ⟨g, 0, none⟩) i cap)
    (ad : Addr) (m c : Nat) (hx : a.eval x = .slice (some ad) m c) (news : List Value) (hl : news.length = m) (hnews : ∀ j u, news[j]? = some u → w.cell? (ad.add j) = some u) (h1 : ∀ u ∈ news, u.oneCell' = true)
    (hroom : i + m ≤ cap) (hcap : cur.length = cap) (L : Nat) (hL : i + m = L)
    (h : ∀ w', RowL w' g (splice cur i news) → w.grownBy w' (some g) → wpList Try.prog ops Q rest (a.put o.dst (.slice (some ⟨g, 0, none⟩) L cap)) w') : wpList Try.prog ops Q (o :: rest) a w :=
  wpList_plain hgd fun _ hK => wpo_room s x ho g i cap cur hg hs ad m c hx news hl hnews h1 hroom hcap L hL fun w' h2 h3 => hK _ _ (h w' h2 h3)
/-- clear of some places of a row -/
theorem wpl_clear {w : World} {ops : Array Oper} {rest : List Oper} {o : Oper} {a : Act} {Q : Exit → Act → World → Prop} (hgd : o.guard = none) (x : Operand)
    (ho : o.op = .call { callee := .builtin .clear, args := #[x], argTypes := #[tPsl] }) (g k m c : Nat) (hx : a.eval x = .slice (some ⟨g, k, none⟩) m c) (cur : List Value) (hg : RowL w g cur) (hm : 0 < m) (hk : k + m ≤ cur.length)
    (h : ∀ w', RowL w' g (splice cur k (List.replicate m (.slice none 0 0))) → w.grownBy w' (some g) → wpList Try.prog ops Q rest (a.put o.dst (.tuple #[])) w') : wpList Try.prog ops Q (o :: rest) a w := by
  refine wpList_plain hgd fun K hK => ?_
  have hr := Lib.run_clear_slice (P := Try.prog) w tPsl tPg o.type (.slice none 0 0) Try.underlying68 zero_pg rfl rfl g k m c hm (fun j hj => by rw [hg.cell, List.getElem?_eq_getElem (by omega)]; rfl) (fun j hj => hg.thawed _)
  unfold Oper.wp execOp
  simp only [ho, resolve, invoke, builtin, Sem.run_bind, Sem.run_pure, Result.andThen_ok, List.map_toArray, List.map_cons, List.map_nil, hx, hr]
  obtain ⟨h2, h3⟩ := row_setCells (g := g) (List.replicate m (.slice none 0 0)) k w cur hg (by simpa using hk)
  exact hK _ _ (h _ h2 h3)
theorem clear_run {w : World} {g k m : Nat} {cur : List Value} (hg : RowL w g cur) (hm : 0 < m) (hk : k + m ≤ cur.length) :
    ∃ w', (∀ ty c, (Builtin.clear_ #[tPsl] ty #[.slice (some ⟨g, k, none⟩) m c]).run Try.prog w = .ok (.tuple #[]) w') ∧ RowL w' g (splice cur k (List.replicate m (.slice none 0 0))) ∧ w.grownBy w' (some g) := by
  obtain ⟨h2, h3⟩ := row_setCells (g := g) (List.replicate m (.slice none 0 0)) k w cur hg (by simpa using hk)
  exact ⟨_, fun ty c => Lib.run_clear_slice (P := Try.prog) w tPsl tPg ty (.slice none 0 0) Try.underlying68 zero_pg rfl rfl g k m c hm (fun j hj => by rw [hg.cell, List.getElem?_eq_getElem (by omega)]; rfl) (fun j hj => hg.thawed _), h2, h3⟩
/-- copy into a row -/
theorem wpo_copy {w : World} {o : Oper} {a : Act} {K : Act → World → Prop} {Q : Exit → Act → World → Prop} (d s : Operand)
    (ho : o.op = .call { callee := .builtin .copy, args := #[d, s], argTypes := #[tPsl, tPsl] }) (g off dLen dCap : Nat) (ad : Addr) (sLen sCap : Nat) (hd : a.eval d = .slice (some ⟨g, off, none⟩) dLen dCap) (hs : a.eval s = .slice (some ad) sLen sCap)
    (cur : List Value) (hg : RowL w g cur) (cs : List Value) (hn : cs.length = Nat.min sLen dLen) (hsrc : ∀ j v, cs[j]? = some v → w.cell? (ad.add j) = some v) (hfit : off + cs.length ≤ cur.length) (h1 : ∀ v ∈ cs, v.oneCell' = true)
    (h : ∀ w', RowL w' g (splice cur off cs) → w.grownBy w' (some g) → K (a.put o.dst (goInt cs.length)) w') : o.wp Try.prog a w K Q := by
  obtain ⟨i0, hi, hz0, hz1, hz2⟩ := info_parts info_pg
  have hrun := run_copy_row (P := Try.prog) w tPsl tPsl o.type tPg g off dLen dCap ad sLen sCap cur.toArray tPg cs Try.underlying68 (by rw [hi]; simp [hz1]) hg hn hsrc (by simpa using hfit) h1
  unfold Oper.wp
  simp [execOp, ho, resolve, invoke, builtin, hd, hs, hrun, Result.andThen]
  refine h _ ?_ (grow_row _)
  unfold RowL
  have e := setRow_heap w g _ (cur.take off ++ (cs ++ cur.drop (off + cs.length))).toArray tPg _ hg
  simpa [splice] using e
theorem wpl_copy {w : World} {ops : Array Oper} {rest : List Oper} {o : Oper} {a : Act} {Q : Exit → Act → World → Prop} (hgd : o.guard = none) (d s : Operand)
    (ho : o.op = .call { callee := .builtin .copy, args := #[d, s], argTypes := #[tPsl, tPsl] }) (g off dLen dCap : Nat) (ad : Addr) (sLen sCap : Nat) (hd : a.eval d = .slice (some ⟨g, off, none⟩) dLen dCap) (hs : a.eval s = .slice (some ad) sLen sCap)
    (cur : List Value) (hg : RowL w g cur) (cs : List Value) (hn : cs.length = Nat.min sLen dLen) (hsrc : ∀ j v, cs[j]? = some v → w.cell? (ad.add j) = some v) (hfit : off + cs.length ≤ cur.length) (h1 : ∀ v ∈ cs, v.oneCell' = true)
    (h : ∀ w', RowL w' g (splice cur off cs) → w.grownBy w' (some g) → wpList Try.prog ops Q rest (a.put o.dst (goInt cs.length)) w') : wpList Try.prog ops Q (o :: rest) a w :=
  wpList_plain hgd fun _ hK => wpo_copy d s ho g off dLen dCap ad sLen sCap hd hs cur hg cs hn hsrc hfit h1 fun w' h2 h3 => hK _ _ (h w' h2 h3)
theorem copy_run {w : World} {g off dLen sLen sCap : Nat} {ad : Addr} {cur : List Value} (hg : RowL w g cur) (cs : List Value) (hn : cs.length = Nat.min sLen dLen) (hsrc : ∀ j v, cs[j]? = some v → w.cell? (ad.add j) = some v) (hfit : off + cs.length ≤ cur.length) (h1 : ∀ v ∈ cs, v.oneCell' = true) :
    ∃ w', (∀ ty dc, (Builtin.copy_ #[tPsl, tPsl] ty #[.slice (some ⟨g, off, none⟩) dLen dc, .slice (some ad) sLen sCap]).run Try.prog w = .ok (goInt cs.length) w') ∧ RowL w' g (splice cur off cs) ∧ w.grownBy w' (some g) := by
  obtain ⟨i0, hi, hz0, hz1, hz2⟩ := info_parts info_pg
  refine ⟨_, fun ty dc => run_copy_row (P := Try.prog) w tPsl tPsl ty tPg g off dLen dc ad sLen sCap cur.toArray tPg cs Try.underlying68 (by rw [hi]; simp [hz1]) hg hn hsrc (by simpa using hfit) h1, ?_, grow_row _⟩
  unfold RowL
  have e := setRow_heap w g _ (cur.take off ++ (cs ++ cur.drop (off + cs.length))).toArray tPg _ hg
  simpa [splice] using e
/-- some neighbouring places of a row are read where they lie -/
theorem RowL.src {w : World} {g : Nat} {cur : List Value} (h : RowL w g cur) (k m : Nat) : ∀ j u, ((cur.drop k).take m)[j]? = some u → w.cell? ((⟨g, k, none⟩ : Addr).add j) = some u := fun j u hu => by
  rw [Go.WideShapes.add_plain, h.cell]
  rw [List.getElem?_take] at hu
  split at hu
  · rw [List.getElem?_drop] at hu; exact hu
  · cases hu
end Go.Proofs.Ytibolgpaolnheaa.Str
