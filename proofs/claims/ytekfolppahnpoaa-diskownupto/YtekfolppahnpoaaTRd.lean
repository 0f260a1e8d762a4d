import Derived.Test.YtekfolppahnpoaaTMk
namespace Go.Proofs.Ytekfolppahnpoaa
set_option linter.unusedVariables false
set_option linter.unusedSimpArgs false
open Go.RowKit Go.Maps
variable {W w w' : World} {P : Nat → Nat} {ds : Nat → Dst} {c K : Nat} {F : Key → Row}
/-- append to a row of the call's own, whatever comes -/
theorem run_appV (B : Nat) (t ty e : TypeId) (z : Value) (by_ : Nat) (ht : Try.prog.underlying t = some (.slice e)) (hinf : (Try.prog.info? e).map (fun i => (i.zero, i.size, i.bytes)) = some (some z, 1, by_)) (hz : z.cells.size = 1) (hb24 : by_ ≤ 24)
    (v : Value) (xs : List Value) (hown : w.ownsRow B e 1 v xs.length xs) (x : Value) (us : List Value) (hx : (x = .slice none 0 0 ∧ us = []) ∨ ∃ g cap, x = .slice (some ⟨g, 0, none⟩) us.length cap ∧ ∀ j, j < us.length → w.cell? ⟨g, j, none⟩ = us[j]?) (h1 : ∀ u ∈ us, u.oneCell' = true) (hl : xs.length + us.length ≤ 100000000) (hbase : B ≤ w.heap.size) :
    ∃ v' w', (Builtin.append_ #[t, t] ty #[v, x]).run Try.prog w = .ok v' w' ∧ w'.ownsRow B e 1 v' (xs ++ us).length (xs ++ us) ∧ w.grownBy w' v.ownBlock ∧ (v'.ownBlock = v.ownBlock ∨ v'.ownBlock = some w.heap.size) := by
  obtain ⟨i, hi, hz0, hz1, hz2⟩ := info_parts hinf
  rcases hx with ⟨rfl, rfl⟩ | ⟨g, cap, rfl, hc⟩
  · exact ⟨v, w, run_append_owned_none w B t ty e i 1 ht hi v xs.length xs hown, by simpa using hown, World.grownBy.refl _ _, .inl rfl⟩
  · obtain ⟨v', w', hr, h2, h3, -, h5⟩ := run_append_own_at (P := Try.prog) w B t ty e i z 1 by_ ht hi hz0 hz1 hz2 hz (by decide) v xs.length xs hown ⟨g, 0, none⟩ us.length cap us (by simp) (by
      intro j u hj
      rw [Go.WideShapes.add_plain, Nat.zero_add, hc j (List.getElem?_eq_some_iff.1 hj).1, hj]) h1 (by simp only [maxLen]; omega) (by have := Nat.mul_le_mul hl hb24; omega) hbase
    exact ⟨v', w', hr, by rw [List.length_append]; exact h2, h3, h5⟩
theorem wpo_run {o : Oper} {a : Act} {K' : Act → World → Prop} {Q : Exit → Act → World → Prop} (s y : Operand) (t : TypeId) (ho : o.op = .call { callee := .builtin .append, args := #[s, y], argTypes := #[t, t] })
    (v x : Value) (hs : a.eval s = v) (hy : a.eval y = x) (v' : Value) (w' : World) (hr : (Builtin.append_ #[t, t] o.type #[v, x]).run Try.prog w = .ok v' w') (h : K' (a.put o.dst v') w') : Oper.wp Try.prog o a w K' Q := by
  unfold Oper.wp execOp
  simp only [ho, resolve, invoke, builtin, Sem.run_bind, Sem.run_pure, Result.andThen_ok, List.map_toArray, List.map_cons, List.map_nil, hs, hy, hr]
  exact h
abbrev sty (k : Nat) : TypeId := if k < 2 then 40 else 37
abbrev zty (k : Nat) : Value := if k < 2 then .int .u8 0 else .int .i64 0
abbrev bty (k : Nat) : Nat := if k < 2 then 1 else 8
theorem sty_un (k : Nat) : Try.prog.underlying (sty k) = some (.slice (ety k)) := by
  unfold sty ety; split
  · exact Try.underlying40
  · exact Try.underlying37
theorem ety_info (k : Nat) : (Try.prog.info? (ety k)).map (fun i => (i.zero, i.size, i.bytes)) = some (some (zty k), 1, bty k) := by
  unfold zty ety bty; split
  · exact info5
  · exact infoI
theorem zty_one (k : Nat) : (zty k).cells.size = 1 := by unfold zty; split <;> rfl
theorem bty_le (k : Nat) : bty k ≤ 24 := by unfold bty; split <;> decide
abbrev lty (k : Nat) : TypeId := if k < 2 then 30 else 31
theorem lty_un (k : Nat) : Try.prog.underlying (lty k) = some (.slice (rty k)) := by
  unfold lty rty; split
  · exact Try.underlying30
  · exact Try.underlying31
theorem rty_info (k : Nat) : (Try.prog.info? (rty k)).map (fun i => (i.zero, i.size, i.bytes)) = some (some (.slice none 0 0), 1, 24) := by
  unfold rty; split
  · kernel_rfl
  · kernel_rfl
/-- a copy of one of the rows, on an empty one -/
theorem wpo_tlCopy {N : Nat → Nat} {o : Oper} {a : Act} {K' : Act → World → Prop} {Q : Exit → Act → World → Prop} (s y : Operand) (k : Nat) (t : TypeId) (hst : t = sty k) (ho : o.op = .call { callee := .builtin .append, args := #[s, y], argTypes := #[t, t] })
    (h : Tl W w P ds c K N F) (i : Nat) (hk : k < 4) (hi : N k ≤ i) (v : Value) (he : F (k, i) = ⟨ety k, v, []⟩) (src : Key) (vs : Value) (us : List Value) (hsrc : F src = ⟨ety k, vs, us⟩) (h1 : ∀ u ∈ us, u.oneCell' = true) (hl : us.length ≤ 9000000) (hs : a.eval s = v) (hy : a.eval y = vs)
    (hk' : ∀ v' w', Tl W w' P ds c K N (updF F (k, i) ⟨ety k, v', us⟩) → w.grownBy w' v.ownBlock → K' (a.put o.dst v') w') : Oper.wp Try.prog o a w K' Q := by
  subst hst
  have hown := h.d.fam.own (k, i)
  rw [he] at hown
  have hsr := h.d.fam.own src
  rw [hsrc] at hsr
  obtain ⟨v', w', hr, h2, h3, h5⟩ := run_appV W.heap.size (sty k) o.type (ety k) (zty k) (bty k) (sty_un k) (ety_info k) (zty_one k) (bty_le k) v [] hown vs us (by
    rcases hsr.2 with ⟨e, h0⟩ | ⟨g, cap, cur, e, r⟩
    · exact .inl ⟨e, List.eq_nil_of_length_eq_zero h0⟩
    · refine .inr ⟨g, cap, e, fun j hj => ?_⟩
      have h9 := hsr
      unfold Row.at at h9
      simp only at h9 e
      rw [e] at h9
      exact World.ownsRow.cellAt h9 j (by omega)) h1 (by simp; omega) h.d.ap.bel.size
  refine wpo_run s y (sty k) ho v vs hs hy v' w' hr (hk' v' w' ?_ h3)
  rw [List.nil_append] at h2
  refine h.step k i hk hi (by rw [he]; exact h3) v' us h2 ?_ hl
  rw [he]
  rcases h5 with e | e
  · exact .inl e
  · right; intro g e2; rw [e] at e2; cases e2; exact Nat.le_refl _
/-- a list grows by rows -/
theorem wpo_tlList {N N' : Nat → Nat} {o : Oper} {a : Act} {K' : Act → World → Prop} {Q : Exit → Act → World → Prop} (s y : Operand) (k : Nat) (t : TypeId) (hst : t = lty k) (ho : o.op = .call { callee := .builtin .append, args := #[s, y], argTypes := #[t, t] })
    (h : Tl W w P ds c K N F) (hk : k < 4) (V : Value) (hV : (F (4, k)).v = V) (g cap0 n : Nat) (us : List Value) (hs : a.eval s = V) (hy : a.eval y = .slice (some ⟨g, 0, none⟩) n cap0) (hn : n = us.length) (hp : 0 < n) (hc : ∀ j, j < us.length → w.cell? ⟨g, j, none⟩ = us[j]?)
    (hus : ∀ j, j < us.length → us[j]? = some (F (k, N k + j)).v) (l : Nat) (hl : l = N k + us.length) (hl2 : l ≤ 2000) (hN : ∀ j, j < 4 → N' j = if j = k then l else N j) (hC : Cnt N' F)
    (hk' : ∀ G cap w', w'.cell? ⟨K, k, none⟩ = some V → w'.frozen? ⟨K, k, none⟩ = false → (∃ xs, Tl W (w'.setCell ⟨K, k, none⟩ (.slice (some ⟨G, 0, none⟩) l cap)) P ds c K N' (updF F (4, k) ⟨rty k, .slice (some ⟨G, 0, none⟩) l cap, xs⟩)) → K' (a.put o.dst (.slice (some ⟨G, 0, none⟩) l cap)) w') : Oper.wp Try.prog o a w K' Q := by
  subst hst
  have hlen : (F (4, k)).xs.length = N k := by rw [(h.r k hk).2.1]; simp
  have hown := h.d.fam.own (4, k)
  unfold Row.at at hown
  rw [(h.r k hk).1] at hown
  have h1 : ∀ u ∈ us, u.oneCell' = true := by
    intro u hu
    obtain ⟨j, hj, e⟩ := List.getElem_of_mem hu
    have h9 := hus j hj
    rw [List.getElem?_eq_getElem hj, e] at h9
    cases h9
    obtain ⟨a9, c9, e9, -⟩ := Row.val (h.d.fam.own (k, N k + j))
    rw [e9]
    rfl
  obtain ⟨v', w', hr, h2, h3, h5⟩ := run_appV W.heap.size (lty k) o.type (rty k) (.slice none 0 0) 24 (lty_un k) (rty_info k) rfl (by decide) (F (4, k)).v (F (4, k)).xs hown (.slice (some ⟨g, 0, none⟩) us.length cap0) us (.inr ⟨g, cap0, rfl, hc⟩) h1 (by omega) h.d.ap.bel.size
  have hll : ((F (4, k)).xs ++ us).length = l := by simp; omega
  rw [hll] at h2
  obtain ⟨G, cap, rfl⟩ : ∃ G cap, v' = .slice (some ⟨G, 0, none⟩) l cap := by
    rcases h2.2 with ⟨-, e⟩ | ⟨G, cap, cur, e, -⟩
    · omega
    · exact ⟨G, cap, e⟩
  have h6 := h.list (N' := N') k hk G l cap us h3 h2 (by
    rcases h5 with e | e
    · left; rw [← e]; rfl
    · right; simpa [Value.ownBlock] using e) (by rw [hN k hk, if_pos rfl]) (by
    apply List.ext_getElem?
    intro j
    by_cases hj : j < N k
    · rw [List.getElem?_append_left (by omega), (h.r k hk).2.1]
      simp [hj, show j < l by omega]
    · by_cases hj2 : j < l
      · rw [List.getElem?_append_right (by omega), hlen, hus (j - N k) (by omega)]
        simp only [List.getElem?_map, List.getElem?_range hj2, Option.map_some]
        rw [show N k + (j - N k) = j by omega]
      · rw [List.getElem?_eq_none (by omega), List.getElem?_eq_none (by simp; omega)]) (fun j hj hne => by rw [hN j hj, if_neg hne]) hC
  exact wpo_run s y (lty k) ho V _ hs hy _ _ (by rw [hn, ← hV]; exact hr) (hk' G cap w' (by rw [← hV]; exact h6.1.1) h6.1.2 ⟨_, h6.2⟩)
end Go.Proofs.Ytekfolppahnpoaa
