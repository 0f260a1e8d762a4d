import Derived.Test.YtnhjkipaclchiaaQRm
namespace Go.Proofs.Ytnhjkipaclchiaa
set_option linter.unusedVariables false
set_option linter.unusedSimpArgs false
open Go.RowKit
abbrev tRe : TypeId := 60
abbrev tBk : TypeId := 52
theorem info_re : (Try.prog.info? tRe).map (fun i => (i.zero, i.size, i.bytes)) = some (some (.agg #[.int .u64 0, .int .u64 0, .int .u64 0]), 3, 24) := by kernel_rfl
theorem info_re3 : (Try.prog.info? tRe).map (·.size) = some 3 := by kernel_rfl
/-- a book: entries in order, in a row of its own -/
def OwnB (w : World) (B : Nat) (v : Value) (xs : List Ent) : Prop := w.ownsRow B tRe 3 v xs.length (flatE xs)
theorem OwnB.below {w w' : World} {B : Nat} {v : Value} {xs : List Ent} (h : OwnB w B v xs) (hb : Below w.heap.size w w') : OwnB w' B v xs := by
  refine ⟨h.1, ?_⟩
  rcases h.2 with h0 | ⟨g, cap, cur, e, hB, hg, r⟩
  · exact .inl h0
  · exact .inr ⟨g, cap, cur, e, hB, (hb.block g (Array.getElem?_eq_some_iff.1 hg).1).trans hg, r⟩
theorem OwnB.low {w : World} {B : Nat} {v : Value} {xs : List Ent} (h : OwnB w B v xs) : OwnB w 0 v xs := by
  refine ⟨h.1, ?_⟩
  rcases h.2 with h0 | ⟨g, cap, cur, e, hB, r⟩
  · exact .inl h0
  · exact .inr ⟨g, cap, cur, e, Nat.zero_le _, r⟩
theorem OwnB.nil (w : World) (B : Nat) : OwnB w B (.slice none 0 0) [] := World.ownsRow_nil _ _ _ _
theorem OwnB.kept {w w' : World} {g S : Nat} {P : List (List Ent)} {v : Value} {vs : List Value} {B : Nat} {x : Value} {xs : List Ent} (h : OwnB w B x xs) (hi : IdxAt w g S P v vs) (hc : Chg (foot g v) w w') : OwnB w' B x xs := by
  refine ⟨h.1, ?_⟩
  rcases h.2 with h0 | ⟨g9, cap, cur, e, hB, hg, r⟩
  · exact .inl h0
  · refine .inr ⟨g9, cap, cur, e, hB, (hc.block g9 (Array.getElem?_eq_some_iff.1 hg).1 (fun hf => ?_)).trans hg, r⟩
    rcases hf with rfl | hf
    · rw [hi.hd] at hg
      injection hg with hg
      injection hg with h1 h2
      exact absurd h2 (by decide)
    · obtain ⟨cu, h9⟩ := hi.rowBlk g9 hf
      rw [h9] at hg
      injection hg with hg
      injection hg with h1 h2
      exact absurd h2 (by decide)
theorem OwnB.val {w : World} {B : Nat} {v : Value} {xs : List Ent} (h : OwnB w B v xs) : ∃ a c, v = .slice a xs.length c ∧ xs.length ≤ c ∧ ∀ j (hj : j < xs.length), ∃ b o, a = some ⟨b, o, none⟩ ∧ w.rangeAt b (o + j * 3) (ev xs[j]) := by
  have h' := h
  rcases h.2 with ⟨rfl, h0⟩ | ⟨g, cap, cur, rfl, hB, hg, hn, hm, r⟩
  · obtain rfl : xs = [] := List.eq_nil_of_length_eq_zero h0
    exact ⟨none, 0, rfl, Nat.le_refl _, fun j hj => absurd hj (Nat.not_lt_zero _)⟩
  · refine ⟨_, cap, rfl, hn, fun j hj => ⟨g, 0, rfl, fun q v hv => ?_⟩⟩
    have hq : q < 3 := by have := (List.getElem?_eq_some_iff.1 hv).1; simpa using this
    rw [Nat.zero_add, World.ownsRow.cellAt h' _ (by omega), flatE_get xs j q hj hq]
    exact hv
/-- append of an entry that was laid -/
theorem wp_appB {w : World} {ops : Array Oper} {rest : List Oper} {o : Oper} {a : Act} {Q : Exit → Act → World → Prop} (hgd : o.guard = none) (s x : Operand)
    (ho : o.op = .call { callee := .builtin .append, args := #[s, x], argTypes := #[tBk, tBk] }) (B : Nat) (v : Value) (xs : List Ent) (e : Ent)
    (hs : a.eval s = v) (hown : OwnB w B v xs) (N : Nat) (hx : a.eval x = .slice (some ⟨N, 0, none⟩) 1 1) (hN : w.heap[N]? = some (.cells #[.int .u64 (e.st.1 : Int), .int .u64 (e.st.2 : Int), .int .u64 (e.n : Int)] tRe (0, 0)))
    (hb : xs.length + 1 ≤ 5000000000000) (hbase : B ≤ w.heap.size)
    (h : ∀ v' w', OwnB w' B v' (xs ++ [e]) → w.grownBy w' v.ownBlock → wpList Try.prog ops Q rest (a.put o.dst v') w') : wpList Try.prog ops Q (o :: rest) a w := by
  obtain ⟨i0, hi, hz0, hz1, hz2⟩ := info_parts info_re
  refine wpList_append_own w hgd s x tBk ho B tRe i0 _ 3 24 Try.underlying52 hi hz0 hz1 hz2 rfl (by decide) v xs.length (flatE xs) hs hown ⟨N, 0, none⟩ 1 1 (flatE [e]) hx (flatE_len [e]) ?_ (flatE_one' [e]) (by simp only [maxLen]; omega) (by omega) hbase ?_
  · rw [flatE_one]
    exact World.news_of_block hN
  · intro v' w' h1 h2 _
    refine h v' w' ?_ h2
    unfold OwnB
    rw [List.length_append, flatE_app]
    exact h1
theorem app_next {B : Nat} {w wr u u' : World} {v : Value} {xs : List Ent} (hbel : Below B w wr) (hown : OwnB wr B v xs) (hg : u.grownBy u' v.ownBlock) (hu : Below wr.heap.size wr u) (hB : B ≤ wr.heap.size) : Below B w u' := by
  have h1 : Below B w u := hbel.trans ⟨hu.os, hu.tape, hu.output, hu.size, fun k hk => hu.block k (Nat.lt_of_lt_of_le hk hB)⟩
  exact h1.grown hg (Nat.le_trans hB hu.size) (fun k hk => (World.ownsRow.lt hown k hk).1)
/-- what the loop of put has made of the first k entries -/
def BkInv (xs : List Ent) (e : Ent) (k : Nat) (dn : Bool) (ls : List Ent) : Prop :=
  (dn = false ∧ ls = xs.take k ∧ ∀ x ∈ xs.take k, ltS x.st e.st = true) ∨ (dn = true ∧ ls = insL (xs.take k) e ∧ ∃ x ∈ xs.take k, ltS x.st e.st = false)
theorem insL_all {xs : List Ent} {e : Ent} (h : ∀ x ∈ xs, ltS x.st e.st = true) : insL xs e = xs ++ [e] := by
  unfold insL
  rw [filt_all h, filt_no (fun x hx => ltS_asymm (h x hx)), List.append_nil]
theorem insL_snoc {xs : List Ent} {e x : Ent} : insL (xs ++ [x]) e = xs.filter (fun y => ltS y.st e.st) ++ (if ltS x.st e.st then [x] else []) ++ [e] ++ (xs.filter (fun y => ltS e.st y.st) ++ if ltS e.st x.st then [x] else []) := by
  unfold insL
  rw [List.filter_append, List.filter_append]
  congr 1
  · congr 2
    cases h : ltS x.st e.st <;> simp [h]
  · congr 1
    cases h : ltS e.st x.st <;> simp [h]
variable {xs : List Ent} {e : Ent} {k : Nat} {ls : List Ent} {dn : Bool}
theorem BkInv.same (h : BkInv xs e k dn ls) (ho : Ord xs) (hk : k < xs.length) (hs : xs[k].st = e.st) : BkInv xs e (k + 1) true (ls ++ [e]) := by
  have et := List.take_succ_eq_append_getElem hk
  rcases h with ⟨-, rfl, h3⟩ | ⟨-, -, x, hx, h3⟩
  · refine .inr ⟨rfl, ?_, xs[k], by rw [et]; exact List.mem_append_right _ (List.mem_singleton_self _), by rw [hs]; exact ltS_irrefl _⟩
    rw [et, insL_snoc, hs, ltS_irrefl, filt_all h3, filt_no (fun x hx => ltS_asymm (h3 x hx))]
    simp
  · exfalso
    obtain ⟨j, hj, rfl⟩ := List.getElem_of_mem hx
    have hj' : j < k := by have := hj; rw [List.length_take] at this; omega
    rw [List.getElem_take, ← hs] at h3
    rw [(List.pairwise_iff_getElem.1 ho) j k (by omega) hk hj'] at h3
    cases h3
theorem BkInv.low (h : BkInv xs e k false ls) (hk : k < xs.length) (hs : ltS xs[k].st e.st = true) : BkInv xs e (k + 1) false (ls ++ [xs[k]]) := by
  have et := List.take_succ_eq_append_getElem hk
  rcases h with ⟨-, rfl, h3⟩ | ⟨h, -⟩
  · refine .inl ⟨rfl, et.symm, fun x hx => ?_⟩
    rw [et] at hx
    rcases List.mem_append.1 hx with hx | hx
    · exact h3 x hx
    · obtain rfl := List.mem_singleton.1 hx; exact hs
  · cases h
theorem BkInv.mid (h : BkInv xs e k false ls) (hk : k < xs.length) (hs : ltS e.st xs[k].st = true) : BkInv xs e (k + 1) true (ls ++ [e] ++ [xs[k]]) := by
  have et := List.take_succ_eq_append_getElem hk
  rcases h with ⟨-, rfl, h3⟩ | ⟨h, -⟩
  · refine .inr ⟨rfl, ?_, xs[k], by rw [et]; exact List.mem_append_right _ (List.mem_singleton_self _), ltS_asymm hs⟩
    rw [et, insL_snoc, ltS_asymm hs, hs, filt_all h3, filt_no (fun x hx => ltS_asymm (h3 x hx))]
    simp
  · cases h
theorem BkInv.high (h : BkInv xs e k true ls) (ho : Ord xs) (hk : k < xs.length) (hs : ¬ xs[k].st = e.st) : BkInv xs e (k + 1) true (ls ++ [xs[k]]) := by
  have et := List.take_succ_eq_append_getElem hk
  rcases h with ⟨h, -⟩ | ⟨-, rfl, x, hx, h3⟩
  · cases h
  · obtain ⟨j, hj, rfl⟩ := List.getElem_of_mem hx
    have hj' : j < k := by have := hj; rw [List.length_take] at this; omega
    rw [List.getElem_take] at h3
    have h4 := (List.pairwise_iff_getElem.1 ho) j k (by omega) hk hj'
    have h5 : ltS xs[k].st e.st = false := by
      cases h9 : ltS xs[k].st e.st
      · rfl
      · rw [ltS_trans h4 h9] at h3; cases h3
    have h6 := ltS_ge h5 hs
    refine .inr ⟨rfl, ?_, xs[k], by rw [et]; exact List.mem_append_right _ (List.mem_singleton_self _), h5⟩
    rw [et, insL_snoc, h5, h6]
    unfold insL
    simp
theorem BkInv.end (h : BkInv xs e xs.length true ls) : ls = insL xs e := by
  rcases h with ⟨h, -⟩ | ⟨-, h, -⟩
  · cases h
  · rw [List.take_length] at h; exact h
theorem BkInv.end0 (h : BkInv xs e xs.length false ls) : ls ++ [e] = insL xs e := by
  rcases h with ⟨-, h, h3⟩ | ⟨h, -⟩
  · rw [List.take_length] at h h3; rw [insL_all h3, h]
  · cases h
theorem BkInv.len (h : BkInv xs e k dn ls) : ls.length ≤ xs.length + 1 := by
  rcases h with ⟨-, rfl, -⟩ | ⟨-, rfl, x, hx, h3⟩
  · rw [List.length_take]; omega
  · unfold insL
    rw [List.length_append, List.length_append]
    have h1 : ((xs.take k).filter (fun x => ltS x.st e.st)).length + ((xs.take k).filter (fun x => ltS e.st x.st)).length ≤ (xs.take k).length := by
      generalize xs.take k = l
      induction l with
      | nil => simp
      | cons y l ih =>
        rw [List.filter_cons, List.filter_cons, List.length_cons]
        cases h1 : ltS y.st e.st <;> cases h2 : ltS e.st y.st <;> simp <;> first | omega | (rw [ltS_asymm h1] at h2; cases h2)
    rw [List.length_take] at h1
    simp
    omega
end Go.Proofs.Ytnhjkipaclchiaa
