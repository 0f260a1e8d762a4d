import Derived.Test.YtibolgpaolnheacNDu
import Derived.Test.YtibolgpaolnheacAI3
import Derived.Test.YtibolgpaolnheacQA
namespace Go.Proofs.Ytibolgpaolnheac
set_option linter.unusedVariables false
set_option linter.unusedSimpArgs false
open Go.RowKit Go.Shelf
variable {B k : Nat} {u u' : World} {x y : Value} {F G : Nat → Prop}
theorem Duo.ty (h : Duo B u x y F k) (b : Nat) (hb : F b) : ∃ cur t, u.heap[b]? = some (.cells cur t (0, 0)) ∧ t ≠ tI ∧ t ≠ tIs := by
  rcases h with ⟨-, -, rfl⟩ | ⟨g, S, P, v, vs, r, v2, vs2, -, -, -, h4, h5, -, -, rfl, -⟩
  · exact hb.elim
  · rcases hb with hb | hb
    · obtain ⟨c2, t2, e2, ht2⟩ := h4.tyF b hb
      exact ⟨_, _, e2, by rcases ht2 with h9 | h9 <;> rw [h9] <;> decide, by rcases ht2 with h9 | h9 <;> rw [h9] <;> decide⟩
    · obtain ⟨c2, t2, e2, ht2⟩ := h5.ty b hb
      exact ⟨_, _, e2, by rcases ht2 with h9 | h9 | h9 <;> rw [h9] <;> decide, by rcases ht2 with h9 | h9 | h9 <;> rw [h9] <;> decide⟩
theorem Duo.row (h : Duo B u x y F k) (hc : Chg F u u') {B' n : Nat} {t : TypeId} {v : Value} {cs : List Value} (ht : t = tI ∨ t = tIs) (ho : u.ownsRow B' t 1 v n cs) : u'.ownsRow B' t 1 v n cs :=
  rowI_kept ho (fun b hb => hc.block b (World.ownsRow.lt ho b hb).2 (fun hF => by
    obtain ⟨c1, e1⟩ := rowI_blk ho b hb
    obtain ⟨c2, t2, e2, h1, h2⟩ := h.ty b hF
    have e := ty_ne e1 e2
    rcases ht with h9 | h9
    · exact h1 (e.symm.trans h9)
    · exact h2 (e.symm.trans h9)))
theorem Duo.chI (h : Duo B u x y F k) (hc : ChI G u u') (hG : ∀ b, G b → ∃ cur t fr, u.heap[b]? = some (.cells cur t fr) ∧ (t = tI ∨ t = tIs)) : Duo B u' x y F k :=
  h.kept (G := G) ⟨hc.os, hc.tape, hc.output, hc.size, hc.block⟩ (fun b h1 h2 => by
    obtain ⟨c1, t1, e1, ha, hb⟩ := h.ty b h1
    obtain ⟨c2, t2, fr2, e2, h9⟩ := hG b h2
    have e := ty_ne e1 e2
    rcases h9 with h9 | h9
    · exact ha (e.trans h9)
    · exact hb (e.trans h9)) (fun b h2 => by
    obtain ⟨c2, t2, fr2, e2, h9⟩ := hG b h2
    exact ⟨_, _, _, e2, by rcases h9 with h9 | h9 <;> rw [h9] <;> decide⟩)
/-- what Pages tells of both -/
theorem duo_pages (h : Duo B u x y F k) (hk : k ≤ 4398046511104) : ∃ L : List Value, L.length ≤ k ∧ (∀ (j : Nat) (v : Value), L[j]? = some v → ∃ z : Int, v = .int .i64 z) ∧
    (∀ w, Below u.heap.size u w → Calls Try.prog 9 #[x] w fun e w' => ∃ v, e = .returned v ∧ w'.ownsRow w.heap.size tI 1 v L.length L ∧ Below w.heap.size w w') ∧
    (∀ w, Below u.heap.size u w → Calls Try.prog 10 #[y] w fun e w' => ∃ v, e = .returned v ∧ w'.ownsRow w.heap.size tI 1 v L.length L ∧ Below w.heap.size w w') := by
  rcases h with ⟨rfl, rfl, rfl⟩ | ⟨g, S, P, v, vs, r, v2, vs2, rfl, rfl, h3, h4, h5, h6, h7, rfl, -⟩
  · refine ⟨[], Nat.zero_le _, fun j v hv => by simp at hv, fun w _ => ?_, fun w _ => ?_⟩
    · exact pages_t (.pointer none) none 0 0 [] w (.inl ⟨rfl, rfl, rfl, rfl⟩) rfl (fun j hj => by simp at hj) (by decide)
    · refine Calls.mono (rpages_nil w) ?_
      rintro e w' ⟨rfl, rfl⟩
      exact ⟨_, rfl, World.ownsRow_nil _ _ _ _, Below.refl _ _⟩
  · have hPl : P.length ≤ 4398046511104 := Nat.le_trans (Nat.le_trans (flat_ge h6.1.1) h7) hk
    have hcl : (cnt P).length = P.length := by simp [cnt]
    refine ⟨cnt P, by rw [hcl]; exact Nat.le_trans (flat_ge h6.1.1) h7, fun j v hv => ?_, fun w hw => ?_, fun w hw => ?_⟩
    · unfold cnt at hv
      rw [List.getElem?_map] at hv
      cases hp : P[j]? with
      | none => rw [hp] at hv; simp at hv
      | some q => rw [hp] at hv; simp at hv; exact ⟨_, hv.symm⟩
    · obtain ⟨pa, cap, hv, hcap, hnil, hrd, hpg⟩ := (h4.below hw).rd
      rw [hcl]
      exact pages_t (.pointer (some ⟨g, 0, none⟩)) pa P.length cap P w hpg rfl hrd hPl
    · obtain ⟨pa, cap, hv, hcap, hxv⟩ := (h5.below hw).view
      rw [hcl]
      exact rpages_t hxv hPl
/-- append of some slices -/
theorem wp_appsI {w : World} {ops : Array Oper} {rest : List Oper} {o : Oper} {a : Act} {Q : Exit → Act → World → Prop} (hgd : o.guard = none) (s x : Operand)
    (ho : o.op = .call { callee := .builtin .append, args := #[s, x], argTypes := #[tIss, tIss] }) (B : Nat) (v : Value) (xs us : List Value)
    (hs : a.eval s = v) (hown : w.ownsRow B tIs 1 v xs.length xs) (g c m : Nat) (hm : m = us.length) (hx : a.eval x = .slice (some ⟨g, 0, none⟩) m c) (hc : ∀ j u, us[j]? = some u → w.cell? ⟨g, j, none⟩ = some u) (h1 : ∀ u ∈ us, u.oneCell' = true)
    (hb : xs.length + us.length ≤ 5000000000000) (hbase : B ≤ w.heap.size)
    (h : ∀ v' w', w'.ownsRow B tIs 1 v' (xs ++ us).length (xs ++ us) → w.grownBy w' v.ownBlock → wpList Try.prog ops Q rest (a.put o.dst v') w') : wpList Try.prog ops Q (o :: rest) a w := by
  subst hm
  obtain ⟨i, hi, hz0, hz1, hz2⟩ := info_parts info_tIs
  obtain ⟨v', w', hr, h2, h3, -, h5⟩ := run_append_own_at (P := Try.prog) w B tIss o.type tIs i _ 1 24 Try.underlying31 hi hz0 hz1 hz2 rfl (by decide) v xs.length xs hown ⟨g, 0, none⟩ us.length c us (by simp) (by
      intro j u hj
      rw [Go.WideShapes.add_plain, Nat.zero_add]
      exact hc j u hj) h1 (by simp only [maxLen]; omega) (by omega) hbase
  refine Lib.wpList_append_run w hgd s x tIss tIss ho v _ hs hx v' w' hr (h v' w' ?_ h3)
  rw [List.length_append]
  exact h2
end Go.Proofs.Ytibolgpaolnheac
