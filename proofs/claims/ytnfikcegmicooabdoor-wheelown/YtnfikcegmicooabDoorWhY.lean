import Derived.Test.YtnfikcegmicooabDoorWhX
import Derived.Shelf.SlSortCmp.NoneTotal
namespace Go.Proofs.YtnfikcegmicooabDoor
set_option linter.unusedVariables false
set_option linter.unusedSimpArgs false
open Go.RowKit Go.Maps Go.Shelf
theorem sort_t (B : Nat) (v : Value) (xs : List Tm) (w : World) (h : OwnM w B v xs) (hl : xs.length ≤ 4398046511104) :
    Calls Tryd.prog 26 #[v, .func (.func 27) #[] #[]] w fun e w' => e = .returned (.tuple #[]) ∧ ∃ ys : List Tm, ys.Perm xs ∧ ys.Pairwise (fun x y => ¬ ltT y x) ∧ OwnM w' B v ys ∧ w.grownBy w' v.ownBlock := by
  rcases h.2 with ⟨rfl, h0⟩ | ⟨g, cap, cur, rfl, r⟩
  · obtain rfl : xs = [] := List.eq_nil_of_length_eq_zero h0
    refine (AnyF.slices_SortFunc_none Tryd.sortR none 0 (.func (.func 27) #[] #[]) w).mono ?_
    rintro e w' ⟨rfl, rfl⟩
    exact ⟨rfl, [], .refl _, List.Pairwise.nil, h, World.grownBy.refl _ _⟩
  · exact sort_s B g cap xs w h hl
/-- what an Advance to n tells -/
def AdvIs (L : List Tm) (n : Nat) (D : List Tm) : Prop := D.Pairwise ltT ∧ ∀ t, t ∈ D ↔ t ∈ L ∧ t.at_ ≤ n
theorem ltT_irr (x : Tm) : ¬ ltT x x := fun h => by unfold ltT at h; omega
theorem ltT_asym {x y : Tm} (h : ltT x y) (k : ltT y x) : False := by unfold ltT at *; omega
/-- two rows in order that have the same in them are the same -/
theorem sorted_uniq : ∀ {xs ys : List Tm}, xs.Pairwise ltT → ys.Pairwise ltT → (∀ t, t ∈ xs ↔ t ∈ ys) → xs = ys
  | [], [], _, _, _ => rfl
  | [], y :: ys, _, _, h => by have := (h y).2 (by simp); cases this
  | x :: xs, [], _, _, h => by have := (h x).1 (by simp); cases this
  | x :: xs, y :: ys, h1, h2, h => by
    obtain ⟨a1, a2⟩ := List.pairwise_cons.1 h1
    obtain ⟨b1, b2⟩ := List.pairwise_cons.1 h2
    have e : x = y := by
      rcases List.mem_cons.1 ((h x).1 (by simp)) with e | e
      · exact e
      · rcases List.mem_cons.1 ((h y).2 (by simp)) with e' | e'
        · exact e'.symm
        · exact (ltT_asym (b1 x e) (a1 y e')).elim
    subst e
    congr 1
    refine sorted_uniq a2 b2 (fun t => ⟨fun ht => ?_, fun ht => ?_⟩)
    · rcases List.mem_cons.1 ((h t).1 (by simp [ht])) with e | e
      · subst e; exact (ltT_irr t (a1 t ht)).elim
      · exact e
    · rcases List.mem_cons.1 ((h t).2 (by simp [ht])) with e | e
      · subst e; exact (ltT_irr t (b1 t ht)).elim
      · exact e
theorem AdvIs.uniq {L : List Tm} {n : Nat} {D D' : List Tm} (h : AdvIs L n D) (h' : AdvIs L n D') : D = D' := sorted_uniq h.1 h'.1 (fun t => (h.2 t).trans (h'.2 t).symm)
theorem Ord.inj {N S : Nat} {L : List Tm} (h : Ord N S L) {t u : Tm} (ht : t ∈ L) (hu : u ∈ L) (e : t.ord = u.ord) : t = u := by
  obtain ⟨i, hi, rfl⟩ := List.mem_iff_getElem.1 ht
  obtain ⟨j, hj, rfl⟩ := List.mem_iff_getElem.1 hu
  have h1 := List.pairwise_iff_getElem.1 h.ord
  rcases Nat.lt_trichotomy i j with h2 | h2 | h2
  · have := h1 i j hi hj h2; omega
  · subst h2; rfl
  · have := h1 j i hj hi h2; omega
/-- the sorted row is what is told -/
theorem adv_of {N S n : Nat} {L D ys : List Tm} (ho : Ord N S L) (hn : D.Nodup) (hD : ∀ t, t ∈ D ↔ t ∈ L ∧ t.at_ ≤ n) (hp : ys.Perm D) (hs : ys.Pairwise (fun x y => ¬ ltT y x)) : AdvIs L n ys := by
  have hm : ∀ t, t ∈ ys ↔ t ∈ L ∧ t.at_ ≤ n := fun t => (hp.mem_iff).trans (hD t)
  refine ⟨?_, hm⟩
  have hnd : ys.Nodup := hp.nodup_iff.2 hn
  rw [List.pairwise_iff_getElem] at *
  intro i j hi hj hij
  have h1 := hs i j hi hj hij
  have h2 : ys[i] ≠ ys[j] := by
    have := List.pairwise_iff_getElem.1 hnd i j hi hj hij
    exact this
  have h3 : ys[i].ord ≠ ys[j].ord := fun e => h2 (ho.inj ((hm _).1 (List.getElem_mem hi)).1 ((hm _).1 (List.getElem_mem hj)).1 e)
  unfold ltT at *
  omega
/-- a row of numbers -/
def OwnZ (w : World) (B : Nat) (v : Value) (zs : List Int) : Prop := w.ownsRow B 3 1 v zs.length (zs.map (fun z => .int .i64 z))
theorem infoZ : (Tryd.prog.info? 3).map (fun i => (i.zero, i.size, i.bytes)) = some (some (.int .i64 0), 1, 8) := by kernel_rfl
theorem wp_app1Z {w : World} {ops : Array Oper} {rest : List Oper} {o : Oper} {a : Act} {Q : Exit → Act → World → Prop} (hgd : o.guard = none) (s x : Operand)
    (ho : o.op = .call { callee := .builtin .append, args := #[s, x], argTypes := #[25, 25] }) (B : Nat) (v : Value) (zs : List Int) (z : Int) (g0 : Nat)
    (hs : a.eval s = v) (hown : OwnZ w B v zs) (hx : a.eval x = .slice (some ⟨g0, 0, none⟩) 1 1) (hr : w.heap[g0]? = some (.cells #[.int .i64 z] 3 (0, 0)))
    (hb : zs.length + 1 ≤ 4398046511104) (hbase : B ≤ w.heap.size)
    (h : ∀ v' w', OwnZ w' B v' (zs ++ [z]) → w.grownBy w' v.ownBlock → (∀ b, v'.ownBlock = some b → v.ownBlock = some b ∨ b = w.heap.size) → wpList Tryd.prog ops Q rest (a.put o.dst v') w') : wpList Tryd.prog ops Q (o :: rest) a w := by
  obtain ⟨i0, hi, hz0, hz1, hz2⟩ := info_parts infoZ
  refine wpList_append_lies w hgd s x 25 ho B 3 i0 (.int .i64 0) 1 8 Tryd.underlying25 hi hz0 hz1 hz2 rfl (by decide) v zs.length (zs.map (fun z => .int .i64 z)) hs hown ⟨g0, 0, none⟩ 1 1 [.int .i64 z] hx rfl (World.news_of_block hr) (by intro u hu; simp at hu; rcases hu with rfl; rfl) (by decide) (by simp only [maxLen]; omega) (by omega) hbase _ rfl ?_
  intro g cap w' h1 h2 h3 h4
  refine h _ w' ?_ h2 (fun b e => ?_)
  · unfold OwnZ
    rw [List.length_append, List.map_append]
    exact h1
  · cases e
    exact h3
theorem rowZ_kept {w w' : World} {B : Nat} {v : Value} {zs : List Int} (h : OwnZ w B v zs) (hk : ∀ b, v.ownBlock = some b → w'.heap[b]? = w.heap[b]?) : OwnZ w' B v zs := by
  refine ⟨h.1, ?_⟩
  rcases h.2 with h0 | ⟨g, cap, cur, e, hB, hg, r⟩
  · exact .inl h0
  · exact .inr ⟨g, cap, cur, e, hB, (hk g (by rw [e]; rfl)).trans hg, r⟩
theorem rowZ_below {w w' : World} {B : Nat} {v : Value} {zs : List Int} (h : OwnZ w B v zs) (hb : Below w.heap.size w w') : OwnZ w' B v zs := rowZ_kept h (fun b h9 => hb.block b (World.ownsRow.lt h b h9).2)
theorem step_delW {w : World} {m : Nat} {K : List Int} {X : Int → Pl} {ops : Array Oper} {o : Oper} {a : Act} {K' : Act → World → Prop} {Q : Exit → Act → World → Prop} {E : Prop} (hgd : o.guard = none) (mo x : Operand) (ho : o.op = .call { callee := .builtin .delete, args := #[mo, x], argTypes := #[tMp, 3] }) (z : Int)
    (hm : a.eval mo = .map (some m)) (hx : a.eval x = .int .i64 z) (h : MapW w m K X) (hz : inI z) (hK : ∀ w', MapW w' m (K.filter (fun y => decide (y ≠ z))) X → w.grownBy w' (some m) → K' (a.put o.dst (.tuple #[])) w') : if Region.wanted o (yielded ops a.tmps) = true then Oper.wp Tryd.prog o a w K' Q else E := by
  rw [if_pos (by simp [Region.wanted, hgd])]
  obtain ⟨w', hr, h1, h2⟩ := h.del hz o.type
  unfold Oper.wp
  simp [execOp, ho, resolve, invoke, builtin, hm, hx, hr, Result.andThen]
  exact hK w' h1 h2
end Go.Proofs.YtnfikcegmicooabDoor
