import Derived.Test.YtdoikcolkbjnfaaGreatCA
import Derived.Laws.OwnMore
namespace Go.Proofs.YtdoikcolkbjnfaaGreat
set_option linter.unusedVariables false
set_option linter.unusedSimpArgs false
open Go.RowKit Go.Maps
/-- not in one block -/
def apI (x y : Value) : Prop := ∀ b, x.ownBlock = some b → y.ownBlock = some b → False
theorem apI.symm {x y : Value} (h : apI x y) : apI y x := fun b h1 h2 => h b h2 h1
section
variable {w w' : World} {B : Nat}
theorem rowI_blk {t : TypeId} {sz n : Nat} {x : Value} {cs : List Value} (h : w.ownsRow B t sz x n cs) (b : Nat) (hb : x.ownBlock = some b) : ∃ cur, w.heap[b]? = some (.cells cur t (0, 0)) := by
  rcases h.2 with ⟨rfl, -⟩ | ⟨g', cap, cur, rfl, -, hg, -⟩
  · cases hb
  · cases hb; exact ⟨cur, hg⟩
theorem rowI_kept {t : TypeId} {sz n : Nat} {x : Value} {cs : List Value} (h : w.ownsRow B t sz x n cs) (hk : ∀ b, x.ownBlock = some b → w'.heap[b]? = w.heap[b]?) : w'.ownsRow B t sz x n cs := by
  refine ⟨h.1, ?_⟩
  rcases h.2 with h0 | ⟨g, cap, cur, e, hB, hg, r⟩
  · exact .inl h0
  · exact .inr ⟨g, cap, cur, e, hB, (hk g (by rw [e]; rfl)).trans hg, r⟩
theorem rowI_below {t : TypeId} {sz n : Nat} {x : Value} {cs : List Value} (h : w.ownsRow B t sz x n cs) (hb : Below w.heap.size w w') : w'.ownsRow B t sz x n cs := rowI_kept h (fun b h9 => hb.block b (World.ownsRow.lt h b h9).2)
/-- rows of other types lie apart -/
theorem rowI_ty {t t' : TypeId} {sz sz' n n' : Nat} {x x' : Value} {cs cs' : List Value} (h : w.ownsRow B t sz x n cs) (h' : w.ownsRow B t' sz' x' n' cs') (hne : t ≠ t') : apI x x' := fun b h1 h2 => by
  obtain ⟨c1, e1⟩ := rowI_blk h b h1
  obtain ⟨c2, e2⟩ := rowI_blk h' b h2
  rw [e1] at e2
  injection e2 with e2
  injection e2 with e3 e4
  exact hne e4
/-- a row grows or is written to: what lies apart stays -/
theorem rowI_grown {t : TypeId} {sz n : Nat} {x v : Value} {cs : List Value} (h : w.ownsRow B t sz x n cs) (hg : w.grownBy w' v.ownBlock) (ha : apI v x) : w'.ownsRow B t sz x n cs :=
  rowI_kept h (fun b hb => hg.block b (World.ownsRow.lt h b hb).2 (fun e => ha b e.symm hb))
/-- a first part of a row -/
theorem rowI_pre {t : TypeId} {sz g n m cap : Nat} {cs : List Value} (h : w.ownsRow B t sz (.slice (some ⟨g, 0, none⟩) m cap) m cs) (hn : n ≤ m) : w.ownsRow B t sz (.slice (some ⟨g, 0, none⟩) n cap) n (cs.take (n * sz)) := by
  have hl := h.1
  have hnm : n * sz ≤ m * sz := Nat.mul_le_mul_right _ hn
  refine ⟨by rw [List.length_take]; omega, ?_⟩
  rcases h.2 with ⟨e, -⟩ | ⟨g', cap', cur, e, hB, hg, h1, h2, h3, h4⟩
  · cases e
  · cases e
    refine .inr ⟨_, _, cur, rfl, hB, hg, by omega, h2, h3, ?_⟩
    rw [← h4, List.take_take]
    congr 1
    omega
theorem rowI_val {t : TypeId} {sz n : Nat} {x : Value} {cs : List Value} (h : w.ownsRow B t sz x n cs) : ∃ a c, x = .slice a n c ∧ n ≤ c := by
  rcases h.2 with ⟨rfl, h0⟩ | ⟨g, cap, cur, rfl, hB, hg, hc, r⟩
  · exact ⟨none, 0, by rw [h0], by omega⟩
  · exact ⟨_, cap, rfl, hc⟩
theorem rowI_some {t : TypeId} {sz n : Nat} {a : Option Addr} {c : Nat} {cs : List Value} (h : w.ownsRow B t sz (.slice a n c) n cs) (hn : 0 < n) : ∃ g, a = some ⟨g, 0, none⟩ := by
  rcases h.2 with ⟨e, h0⟩ | ⟨g, cap, cur, e, -⟩
  · omega
  · cases e; exact ⟨g, rfl⟩
/-- only blocks of F, and new ones, have changed -/
structure ChI (F : Nat → Prop) (w w' : World) : Prop where
  os : w'.os = w.os
  tape : w'.tape = w.tape
  output : w'.output = w.output
  size : w.heap.size ≤ w'.heap.size
  block : ∀ k, k < w.heap.size → ¬ F k → w'.heap[k]? = w.heap[k]?
theorem ChI.refl (F : Nat → Prop) (w : World) : ChI F w w := ⟨rfl, rfl, rfl, Nat.le_refl _, fun _ _ _ => rfl⟩
theorem ChI.below {F : Nat → Prop} {w0 : World} (h : ChI F w0 w) (hb : Below w.heap.size w w') : ChI F w0 w' := ⟨hb.os.trans h.os, hb.tape.trans h.tape, hb.output.trans h.output, Nat.le_trans h.size hb.size, fun k hk hF => (hb.block k (Nat.lt_of_lt_of_le hk h.size)).trans (h.block k hk hF)⟩
theorem ChI.grown {F : Nat → Prop} {w0 : World} {row : Option Nat} (h : ChI F w0 w) (hg : w.grownBy w' row) (hr : ∀ b, row = some b → F b ∨ w0.heap.size ≤ b) : ChI F w0 w' := ⟨hg.os.trans h.os, hg.tape.trans h.tape, hg.output.trans h.output, Nat.le_trans h.size hg.size, fun k hk hF => (hg.block k (Nat.lt_of_lt_of_le hk h.size) (fun e => by
  rcases hr k e.symm with h9 | h9
  · exact hF h9
  · omega)).trans (h.block k hk hF)⟩
theorem grown_any {row : Option Nat} (h : w.grownBy w' none) : w.grownBy w' row := ⟨h.os, h.tape, h.output, h.size, fun k hk _ => h.block k hk (fun e => by cases e)⟩
theorem rep_ofG {α : Type} {D : List α} {N : Nat} {x : α} (hl : D.length = N) (h : ∀ t, t < N → D[t]? = some x) : D = List.replicate N x := by
  apply List.ext_getElem?
  intro t
  by_cases ht : t < N
  · rw [h t ht, List.getElem?_replicate, if_pos ht]
  · rw [List.getElem?_eq_none (by omega), List.getElem?_eq_none (by simp; omega)]
theorem rep_snocG {α : Type} (N : Nat) (x : α) : List.replicate N x ++ [x] = List.replicate (N + 1) x := by
  rw [List.replicate_succ']
end
section
variable {α : Type} {K : Kd α} {w w' : World} {B : Nat} {mk : Nat → α} {vs gs : List Value} {C : Nat → List α} {n : Nat → Nat} {v0 gv g : Value}
/-- append of one element: in the block, or in a new one -/
theorem run_app1G (B : Nat) (ty : TypeId) (v : Value) (xs : List α) (y : α) (hown : OwnG K w B v xs) (g0 : Nat) (c : Nat) (hu : w.heap[g0]? = some (.cells (K.f y).toArray K.t (0, 0))) (h63 : xs.length + 1 ≤ 140737488355328) (hby : (xs.length + 1) * K.by_ ≤ 140737488355328) (hbase : B ≤ w.heap.size) :
    ∃ v' w', (Builtin.append_ #[K.ts, K.ts] ty #[v, .slice (some ⟨g0, 0, none⟩) 1 c]).run Tryz.prog w = .ok v' w' ∧ OwnG K w' B v' (xs ++ [y]) ∧
      ((∃ g cap, v = .slice (some ⟨g, 0, none⟩) xs.length cap ∧ v' = .slice (some ⟨g, 0, none⟩) (xs ++ [y]).length cap ∧ w.grownBy w' (some g)) ∨ (w.grownBy w' none ∧ ∃ cap, v' = .slice (some ⟨w.heap.size, 0, none⟩) (xs ++ [y]).length cap)) := by
  obtain ⟨i, hi, hz0, hz1, hz2⟩ := info_parts K.hi
  have hnews : ∀ j x, (K.f y)[j]? = some x → w.cell? ((⟨g0, 0, none⟩ : Addr).add j) = some x := World.news_of_block hu
  have hlen : (xs ++ [y]).length = xs.length + 1 := by simp
  have hfl : K.flat (xs ++ [y]) = K.flat xs ++ K.f y := by rw [Kd.flat_app, Kd.flat_one]
  have hfk : (K.flat xs ++ K.f y).length = (xs.length + 1) * K.k := by rw [List.length_append, Kd.flat_len, K.hk, Nat.succ_mul]
  have hfx : (K.flat xs).length = xs.length * K.k := Kd.flat_len xs
  have hky := K.hk y
  have hkz := K.hz
  have hmul : (xs.length + 1) * K.k = xs.length * K.k + K.k := Nat.succ_mul _ _
  have grown : ∀ (old : Nat), (w.drew.alloc (.cells ((K.flat xs).toArray ++ (K.f y).toArray ++ Builtin.zeroCells K.z.cells (grownCap w (xs.length + 1) old K.t - (xs.length + 1))) K.t)).ownsRow B K.t K.k (.slice (some ⟨w.heap.size, 0, none⟩) (xs.length + 1) (grownCap w (xs.length + 1) old K.t)) (xs.length + 1) (K.flat xs ++ K.f y) ∧
      w.grownBy (w.drew.alloc (.cells ((K.flat xs).toArray ++ (K.f y).toArray ++ Builtin.zeroCells K.z.cells (grownCap w (xs.length + 1) old K.t - (xs.length + 1))) K.t)) none := by
    intro old
    have hge := grownCap_ge w (xs.length + 1) old K.t
    have hcm : grownCap w (xs.length + 1) old K.t ≤ maxLen := grownCap_le_maxLen w (xs.length + 1) old K.t (by simp only [maxLen]; omega)
    refine ⟨⟨hfk, .inr ⟨w.heap.size, _, _, rfl, hbase, heap_alloc_new w.drew _, hge, hcm, ?_, ?_⟩⟩, ⟨rfl, rfl, rfl, by simp, fun k hk _ => heap_alloc_old w.drew _ hk⟩⟩
    · simp only [Array.size_append, List.size_toArray, size_zeroCells, hkz, hfx, hky]
      have hm2 : (xs.length + 1) * K.k ≤ grownCap w (xs.length + 1) old K.t * K.k := Nat.mul_le_mul_right _ hge
      rw [Nat.sub_mul]
      omega
    · simp only [Array.toList_append]
      rw [← hfk]
      exact List.take_left
  unfold OwnG
  rw [hlen, hfl]
  rcases hown.2 with ⟨rfl, h0⟩ | ⟨g, cap, cur, rfl, hbg, hg, hnc, hcm, hcs, htake⟩
  · obtain rfl : xs = [] := List.eq_nil_of_length_eq_zero h0
    have hr := run_append_nil (P := Tryz.prog) w K.ts ty K.t i K.z K.ht hi hz0 ⟨g0, 0, none⟩ 1 c (K.f y) (by rw [hz1, hky]; omega) hnews (by omega) (by omega) (by rw [hz2]; simp only [List.length_nil, Nat.zero_add, Nat.one_mul] at hby ⊢; omega)
    have hgr := grown 0
    simp only [List.length_nil, Nat.zero_add, Kd.flat, List.flatMap_nil, List.nil_append, Array.empty_append] at hgr ⊢
    exact ⟨_, _, hr, hgr.1, .inr ⟨hgr.2, _, rfl⟩⟩
  · by_cases hroom : xs.length + 1 ≤ cap
    · have hm2 : (xs.length + 1) * K.k ≤ cap * K.k := Nat.mul_le_mul_right _ hroom
      have hfit : xs.length * i.size + (K.f y).length ≤ cur.size := by rw [hz1, hcs, hky]; omega
      have hr := run_append_room (P := Tryz.prog) w K.ts ty K.t i K.ht hi g xs.length cap cur hg ⟨g0, 0, none⟩ 1 c (K.f y) (by rw [hz1, hky]; omega) hnews (fun x hx => K.h1 y x hx) hroom hfit
      rw [hz1] at hr
      refine ⟨_, _, hr, ⟨hfk, .inr ⟨g, cap, _, rfl, hbg, setRow_heap w g cur _ K.t _ hg, hroom, hcm, ?_, ?_⟩⟩, .inl ⟨g, cap, rfl, rfl, ⟨rfl, rfl, rfl, by simp, fun k _ hk => setRow_other w g k _ (fun e => hk (by rw [e]))⟩⟩⟩
      · simp only [List.size_toArray, List.length_append, List.length_take, List.length_drop, Array.length_toList, hky]
        omega
      · rw [htake, ← hfk]
        exact List.take_left
    · have holds : ∀ j x, (K.flat xs)[j]? = some x → w.cell? ((⟨g, 0, none⟩ : Addr).add j) = some x := World.ownsRow.cells hown (g := g) rfl
      have hr := run_append_grow (P := Tryz.prog) w K.ts ty K.t i K.z K.ht hi hz0 ⟨g, 0, none⟩ xs.length cap (K.flat xs) (by rw [hz1]; exact hfx) holds ⟨g0, 0, none⟩ 1 c (K.f y) (by rw [hz1, hky]; omega) hnews (by omega) (by omega) (growslice_fits (by omega) (by rw [hz2]; exact hby))
      have hgr := grown cap
      exact ⟨_, _, hr, hgr.1, .inr ⟨hgr.2, _, rfl⟩⟩
/-- append of one element, inside a list of operations -/
theorem wp_app1G {ops : Array Oper} {rest : List Oper} {o : Oper} {a : Act} {Q : Exit → Act → World → Prop} (hgd : o.guard = none) (s x : Operand)
    (ho : o.op = .call { callee := .builtin .append, args := #[s, x], argTypes := #[K.ts, K.ts] }) (B : Nat) (v : Value) (xs : List α) (y : α)
    (hs : a.eval s = v) (hown : OwnG K w B v xs) (g0 c : Nat) (hx : a.eval x = .slice (some ⟨g0, 0, none⟩) 1 c) (hu : w.heap[g0]? = some (.cells (K.f y).toArray K.t (0, 0))) (h63 : xs.length + 1 ≤ 140737488355328) (hby : (xs.length + 1) * K.by_ ≤ 140737488355328) (hbase : B ≤ w.heap.size)
    (h : ∀ v' w', OwnG K w' B v' (xs ++ [y]) → ((∃ g cap, v = .slice (some ⟨g, 0, none⟩) xs.length cap ∧ v' = .slice (some ⟨g, 0, none⟩) (xs ++ [y]).length cap ∧ w.grownBy w' (some g)) ∨ (w.grownBy w' none ∧ ∃ cap, v' = .slice (some ⟨w.heap.size, 0, none⟩) (xs ++ [y]).length cap)) → wpList Tryz.prog ops Q rest (a.put o.dst v') w') : wpList Tryz.prog ops Q (o :: rest) a w := by
  obtain ⟨v', w', hr, h2, h3⟩ := run_app1G (w := w) B o.type v xs y hown g0 c hu h63 hby hbase
  exact Lib.wpList_append_run w hgd s x K.ts K.ts ho v _ hs hx v' w' hr (h v' w' h2 h3)
/-- append of one cell: in the block, or in a new one -/
theorem run_app1V {w : World} (B : Nat) (t ty e : TypeId) (z : Value) (by_ : Nat) (ht : Tryz.prog.underlying t = some (.slice e)) (hinf : (Tryz.prog.info? e).map (fun i => (i.zero, i.size, i.bytes)) = some (some z, 1, by_)) (hz : z.cells.size = 1)
    (v : Value) (xs : List Value) (hown : w.ownsRow B e 1 v xs.length xs) (g0 : Nat) (c : Nat) (u : Value) (hu : w.heap[g0]? = some (.cells #[u] e (0, 0))) (h1 : u.oneCell' = true) (h63 : xs.length + 1 ≤ 140737488355328) (hby : (xs.length + 1) * by_ ≤ 140737488355328) (hbase : B ≤ w.heap.size) :
    ∃ v' w', (Builtin.append_ #[t, t] ty #[v, .slice (some ⟨g0, 0, none⟩) 1 c]).run Tryz.prog w = .ok v' w' ∧ w'.ownsRow B e 1 v' (xs ++ [u]).length (xs ++ [u]) ∧
      ((∃ g cap, v = .slice (some ⟨g, 0, none⟩) xs.length cap ∧ v' = .slice (some ⟨g, 0, none⟩) (xs ++ [u]).length cap ∧ w.grownBy w' (some g)) ∨ (w.grownBy w' none ∧ ∃ cap, v' = .slice (some ⟨w.heap.size, 0, none⟩) (xs ++ [u]).length cap)) := by
  obtain ⟨i, hi, hz0, hz1, hz2⟩ := info_parts hinf
  have hnews : ∀ j x, [u][j]? = some x → w.cell? ((⟨g0, 0, none⟩ : Addr).add j) = some x := World.news_of_block hu
  have hlen : (xs ++ [u]).length = xs.length + 1 := by simp
  have grown : ∀ (old : Nat), (w.drew.alloc (.cells (xs.toArray ++ [u].toArray ++ Builtin.zeroCells z.cells (grownCap w (xs.length + 1) old e - (xs.length + 1))) e)).ownsRow B e 1 (.slice (some ⟨w.heap.size, 0, none⟩) (xs.length + 1) (grownCap w (xs.length + 1) old e)) (xs.length + 1) (xs ++ [u]) ∧
      w.grownBy (w.drew.alloc (.cells (xs.toArray ++ [u].toArray ++ Builtin.zeroCells z.cells (grownCap w (xs.length + 1) old e - (xs.length + 1))) e)) none := by
    intro old
    have hge := grownCap_ge w (xs.length + 1) old e
    have hcm : grownCap w (xs.length + 1) old e ≤ maxLen := grownCap_le_maxLen w (xs.length + 1) old e (by simp only [maxLen]; omega)
    refine ⟨⟨by simp, .inr ⟨w.heap.size, _, _, rfl, hbase, heap_alloc_new w.drew _, hge, hcm, ?_, ?_⟩⟩, ⟨rfl, rfl, rfl, by simp, fun k hk _ => heap_alloc_old w.drew _ hk⟩⟩
    · simp only [Array.size_append, List.size_toArray, size_zeroCells, hz, List.length_singleton]
      omega
    · simp only [Array.toList_append, Nat.mul_one]
      rw [← hlen]
      exact List.take_left
  rw [hlen]
  rcases hown.2 with ⟨rfl, h0⟩ | ⟨g, cap, cur, rfl, hbg, hg, hnc, hcm, hcs, htake⟩
  · obtain rfl : xs = [] := List.eq_nil_of_length_eq_zero h0
    have hr := run_append_nil (P := Tryz.prog) w t ty e i z ht hi hz0 ⟨g0, 0, none⟩ 1 c [u] (by rw [hz1]; rfl) hnews (by omega) (by omega) (by rw [hz2]; simp only [List.length_nil, Nat.zero_add, Nat.one_mul] at hby ⊢; omega)
    have hgr := grown 0
    simp only [List.length_nil, Nat.zero_add, List.nil_append, Array.empty_append] at hgr ⊢
    exact ⟨_, _, hr, hgr.1, .inr ⟨hgr.2, _, rfl⟩⟩
  · by_cases hroom : xs.length + 1 ≤ cap
    · have hfit : xs.length * i.size + [u].length ≤ cur.size := by rw [hz1, hcs]; simp; omega
      have hr := run_append_room (P := Tryz.prog) w t ty e i ht hi g xs.length cap cur hg ⟨g0, 0, none⟩ 1 c [u] (by rw [hz1]; rfl) hnews (by intro x hx; simp at hx; subst hx; exact h1) hroom hfit
      rw [hz1] at hr
      simp only [Nat.mul_one] at hr htake hcs
      refine ⟨_, _, hr, ⟨by simp, .inr ⟨g, cap, _, rfl, hbg, setRow_heap w g cur _ e _ hg, hroom, hcm, ?_, ?_⟩⟩, .inl ⟨g, cap, rfl, rfl, ⟨rfl, rfl, rfl, by simp, fun k _ hk => setRow_other w g k _ (fun e => hk (by rw [e]))⟩⟩⟩
      · simp only [List.size_toArray, List.length_append, List.length_take, List.length_drop, Array.length_toList, List.length_singleton]
        omega
      · rw [htake, Nat.mul_one, ← hlen]
        exact List.take_left
    · have holds : ∀ j x, xs[j]? = some x → w.cell? ((⟨g, 0, none⟩ : Addr).add j) = some x := hown.cells (g := g) rfl
      have hr := run_append_grow (P := Tryz.prog) w t ty e i z ht hi hz0 ⟨g, 0, none⟩ xs.length cap xs (by rw [hz1]; simp) holds ⟨g0, 0, none⟩ 1 c [u] (by rw [hz1]; rfl) hnews (by omega) (by omega) (growslice_fits (by omega) (by rw [hz2]; exact hby))
      have hgr := grown cap
      exact ⟨_, _, hr, hgr.1, .inr ⟨hgr.2, _, rfl⟩⟩

/-- append of one cell, inside a list of operations -/
theorem wp_app1V {ops : Array Oper} {rest : List Oper} {o : Oper} {a : Act} {Q : Exit → Act → World → Prop} (hgd : o.guard = none) (s x : Operand) (t e : TypeId) (z : Value) (by_ : Nat)
    (ho : o.op = .call { callee := .builtin .append, args := #[s, x], argTypes := #[t, t] }) (ht : Tryz.prog.underlying t = some (.slice e)) (hinf : (Tryz.prog.info? e).map (fun i => (i.zero, i.size, i.bytes)) = some (some z, 1, by_)) (hz : z.cells.size = 1) (B : Nat) (v : Value) (xs : List Value)
    (hs : a.eval s = v) (hown : w.ownsRow B e 1 v xs.length xs) (g0 c : Nat) (u : Value) (hx : a.eval x = .slice (some ⟨g0, 0, none⟩) 1 c) (hu : w.heap[g0]? = some (.cells #[u] e (0, 0))) (h1 : u.oneCell' = true) (h63 : xs.length + 1 ≤ 140737488355328) (hby : (xs.length + 1) * by_ ≤ 140737488355328) (hbase : B ≤ w.heap.size)
    (h : ∀ v' w', w'.ownsRow B e 1 v' (xs ++ [u]).length (xs ++ [u]) → ((∃ g cap, v = .slice (some ⟨g, 0, none⟩) xs.length cap ∧ v' = .slice (some ⟨g, 0, none⟩) (xs ++ [u]).length cap ∧ w.grownBy w' (some g)) ∨ (w.grownBy w' none ∧ ∃ cap, v' = .slice (some ⟨w.heap.size, 0, none⟩) (xs ++ [u]).length cap)) → wpList Tryz.prog ops Q rest (a.put o.dst v') w') : wpList Tryz.prog ops Q (o :: rest) a w := by
  obtain ⟨v', w', hr, h2, h3⟩ := run_app1V (w := w) B t o.type e z by_ ht hinf hz v xs hown g0 c u hu h1 h63 hby hbase
  exact Lib.wpList_append_run w hgd s x t t ho v _ hs hx v' w' hr (h v' w' h2 h3)
/-- lists of one kind, no two of them in one block -/
structure RowsAt (K : Kd α) (w : World) (B : Nat) (vs : List Value) (C : Nat → List α) : Prop where
  own : ∀ j v, vs[j]? = some v → OwnG K w B v (C j)
  ap : vs.Pairwise apI
theorem RowsAt.sep (h : RowsAt K w B vs C) {i j : Nat} {x y : Value} (hi : vs[i]? = some x) (hj : vs[j]? = some y) (hne : i ≠ j) : apI x y := by
  obtain ⟨hi', rfl⟩ := List.getElem?_eq_some_iff.1 hi
  obtain ⟨hj', rfl⟩ := List.getElem?_eq_some_iff.1 hj
  have hp := List.pairwise_iff_getElem.1 h.ap
  rcases Nat.lt_or_ge i j with h9 | h9
  · exact hp i j hi' hj' h9
  · exact (hp j i hj' hi' (by omega)).symm
theorem RowsAt.below (h : RowsAt K w B vs C) (hb : Below w.heap.size w w') : RowsAt K w' B vs C := ⟨fun j v hv => rowI_below (h.own j v hv) hb, h.ap⟩
theorem RowsAt.congr {D : Nat → List α} (h : RowsAt K w B vs C) (he : ∀ j, j < vs.length → C j = D j) : RowsAt K w B vs D := ⟨fun j v hv => by rw [← he j (List.getElem?_eq_some_iff.1 hv).1]; exact h.own j v hv, h.ap⟩
/-- a list is written to -/
theorem RowsAt.put (h : RowsAt K w B vs C) {i : Nat} {v : Value} (hi : vs[i]? = some v) {D : List α} (ho : OwnG K w' B v D) (hg : w.grownBy w' v.ownBlock) :
    RowsAt K w' B vs (fun j => if j = i then D else C j) := by
  refine ⟨fun j u hu => ?_, h.ap⟩
  by_cases e : j = i
  · subst e
    rw [hi] at hu
    cases hu
    simp only [if_true]
    exact ho
  · simp only [if_neg e]
    exact rowI_grown (h.own j u hu) hg (h.sep hi hu (fun e9 => e e9.symm))
/-- amid the growing: the lists with their marks, and those that have grown -/
structure GrG (K : Kd α) (mk : Nat → α) (w : World) (B : Nat) (v0 gv : Value) (vs gs : List Value) (n : Nat → Nat) : Prop where
  lr : w.ownsRow B K.ts 1 v0 vs.length vs
  gr : w.ownsRow B K.ts 1 gv gs.length gs
  lg : apI gv v0
  ix : RowsAt K w B vs (fun j => List.replicate (n j) (mk j))
  go : ∀ (j : Nat) (x : Value), gs[j]? = some x → OwnG K w B x (List.replicate (n j + 64) (mk j))
  gg : ∀ (i j : Nat) (x y : Value), gs[i]? = some x → gs[j]? = some y → i ≠ j → apI x y
  gx : ∀ (i j : Nat) (x y : Value), gs[i]? = some x → vs[j]? = some y → i ≠ j → apI x y
/-- the one that grows -/
structure GiG (K : Kd α) (mk : Nat → α) (w : World) (B : Nat) (vs gs : List Value) (n : Nat → Nat) (k m : Nat) (g : Value) : Prop where
  own : OwnG K w B g (List.replicate (n k + m) (mk k))
  sh : ∀ y, vs[k]? = some y → (∃ b c, g = .slice (some ⟨b, 0, none⟩) (n k + m) c ∧ y = .slice (some ⟨b, 0, none⟩) (n k) c) ∨ apI g y
  av : ∀ (j : Nat) (y : Value), vs[j]? = some y → j ≠ k → apI g y
  ag : ∀ (j : Nat) (y : Value), gs[j]? = some y → apI g y
theorem GrG.below (h : GrG K mk w B v0 gv vs gs n) (hb : Below w.heap.size w w') : GrG K mk w' B v0 gv vs gs n :=
  ⟨rowI_below h.lr hb, rowI_below h.gr hb, h.lg, h.ix.below hb, fun j x hx => rowI_below (h.go j x hx) hb, h.gg, h.gx⟩
theorem GiG.below {k m : Nat} (h : GiG K mk w B vs gs n k m g) (hb : Below w.heap.size w w') : GiG K mk w' B vs gs n k m g := ⟨rowI_below h.own hb, h.sh, h.av, h.ag⟩
theorem OwnG.repl {N : Nat} {x : α} {v : Value} (h : OwnG K w B v (List.replicate N x)) : w.ownsRow B K.t K.k v N (K.flat (List.replicate N x)) := by
  have h9 := h
  unfold OwnG at h9
  rw [List.length_replicate] at h9
  exact h9
theorem GiG.start {k : Nat} (h : GrG K mk w B v0 gv vs gs n) (hk : gs.length = k) (hv : vs[k]? = some g) : GiG K mk w B vs gs n k 0 g := by
  have ho := h.ix.own k g hv
  refine ⟨ho, fun y hy => ?_, fun j y hy hne => h.ix.sep hv hy (fun e => hne e.symm), fun j y hy => (h.gx j k y g hy hv (by have := (List.getElem?_eq_some_iff.1 hy).1; omega)).symm⟩
  rw [hv] at hy
  cases hy
  rcases ho.repl.2 with ⟨rfl, -⟩ | ⟨b, c, cur, rfl, -⟩
  · exact .inr (fun b e => by cases e)
  · exact .inl ⟨b, c, rfl, rfl⟩
theorem Kd.flat_take (xs : List α) (m : Nat) : (K.flat xs).take (m * K.k) = K.flat (xs.take m) := by
  by_cases hm : m ≤ xs.length
  · have e : xs = xs.take m ++ xs.drop m := (List.take_append_drop m xs).symm
    have hl : (K.flat (xs.take m)).length = m * K.k := by rw [Kd.flat_len, List.length_take, Nat.min_eq_left hm]
    conv => lhs; rw [e, Kd.flat_app, ← hl]
    exact List.take_left
  · rw [List.take_of_length_le (by omega : xs.length ≤ m), List.take_of_length_le]
    rw [Kd.flat_len]
    exact Nat.mul_le_mul_right _ (by omega)
/-- one element more -/
theorem GrG.app1 {k m : Nat} (hne : K.t ≠ K.ts) (h : GrG K mk w B v0 gv vs gs n) (hi : GiG K mk w B vs gs n k m g) {v' : Value} (hB : B ≤ w.heap.size) (hown : OwnG K w' B v' (List.replicate (n k + m) (mk k) ++ [mk k]))
    (hc : (∃ b cap, g = .slice (some ⟨b, 0, none⟩) (List.replicate (n k + m) (mk k)).length cap ∧ v' = .slice (some ⟨b, 0, none⟩) (List.replicate (n k + m) (mk k) ++ [mk k]).length cap ∧ w.grownBy w' (some b)) ∨ (w.grownBy w' none ∧ ∃ cap, v' = .slice (some ⟨w.heap.size, 0, none⟩) (List.replicate (n k + m) (mk k) ++ [mk k]).length cap)) :
    GrG K mk w' B v0 gv vs gs n ∧ GiG K mk w' B vs gs n k (m + 1) v' ∧ w.grownBy w' g.ownBlock ∧ (v'.ownBlock = g.ownBlock ∨ v'.ownBlock = some w.heap.size) := by
  rw [rep_snocG] at hown hc
  rw [List.length_replicate, List.length_replicate] at hc
  rcases hc with ⟨b, cap, rfl, rfl, hg⟩ | ⟨hg, cap, rfl⟩
  · have keep : ∀ {t : TypeId} {sz N : Nat} {x : Value} {cs : List Value}, w.ownsRow B t sz x N cs → apI (.slice (some ⟨b, 0, none⟩) (n k + m) cap) x → w'.ownsRow B t sz x N cs := fun h1 h2 => rowI_grown (v := .slice (some ⟨b, 0, none⟩) (n k + m) cap) h1 hg h2
    have hl := rowI_ty hi.own h.lr hne
    have hgr := rowI_ty hi.own h.gr hne
    refine ⟨⟨keep h.lr hl, keep h.gr hgr, h.lg, ⟨fun j v hv => ?_, h.ix.ap⟩, fun j x hx => keep (h.go j x hx) (hi.ag j x hx), h.gg, h.gx⟩, ⟨hown, fun y hy => ?_, fun j y hy hne => ?_, fun j y hy => ?_⟩, ?_⟩
    · by_cases e : j = k
      · subst e
        rcases hi.sh v hv with ⟨b', c', e1, e2⟩ | h9
        · cases e1
          subst e2
          have h8 := rowI_pre (n := n j) hown.repl (by omega)
          rw [Kd.flat_take, List.take_replicate, Nat.min_eq_left (by omega)] at h8
          unfold OwnG
          rw [List.length_replicate]
          exact h8
        · exact keep (h.ix.own j v hv) h9
      · exact keep (h.ix.own j v hv) (hi.av j v hv e)
    · rcases hi.sh y hy with ⟨b', c', e1, e2⟩ | h9
      · cases e1
        exact .inl ⟨_, _, rfl, e2⟩
      · exact .inr (fun b' e1 e2 => h9 b' e1 e2)
    · exact fun b' e1 e2 => hi.av j y hy hne b' e1 e2
    · exact fun b' e1 e2 => hi.ag j y hy b' e1 e2
    · exact ⟨hg, .inl rfl⟩
  · have hb : Below w.heap.size w w' := ⟨hg.os, hg.tape, hg.output, hg.size, fun k9 h9 => hg.block k9 h9 (fun e9 => by cases e9)⟩
    have far : ∀ {t : TypeId} {sz N : Nat} {x : Value} {cs : List Value}, w.ownsRow B t sz x N cs → apI (.slice (some ⟨w.heap.size, 0, none⟩) (n k + m + 1) cap) x := fun h1 b e1 e2 => by
      cases e1
      exact absurd (World.ownsRow.lt h1 _ e2).2 (Nat.lt_irrefl _)
    exact ⟨h.below hb, ⟨hown, fun y hy => .inr (far (h.ix.own k y hy)), fun j y hy _ => far (h.ix.own j y hy), fun j y hy => far (h.go j y hy)⟩, grown_any hg, .inr rfl⟩
/-- the one that has grown goes to the others -/
theorem GrG.push {k : Nat} (hne : K.t ≠ K.ts) (h : GrG K mk w B v0 gv vs gs n) (hk : gs.length = k) (hi : GiG K mk w B vs gs n k 64 g) {v' : Value} (hB : B ≤ w.heap.size) (hown : w'.ownsRow B K.ts 1 v' (gs ++ [g]).length (gs ++ [g]))
    (hc : (∃ b cap, gv = .slice (some ⟨b, 0, none⟩) gs.length cap ∧ v' = .slice (some ⟨b, 0, none⟩) (gs ++ [g]).length cap ∧ w.grownBy w' (some b)) ∨ (w.grownBy w' none ∧ ∃ cap, v' = .slice (some ⟨w.heap.size, 0, none⟩) (gs ++ [g]).length cap)) :
    GrG K mk w' B v0 v' vs (gs ++ [g]) n ∧ w.grownBy w' gv.ownBlock ∧ (v'.ownBlock = gv.ownBlock ∨ v'.ownBlock = some w.heap.size) := by
  have get : ∀ (j : Nat) (x : Value), (gs ++ [g])[j]? = some x → (gs[j]? = some x ∧ j < k) ∨ (j = k ∧ x = g) := fun j x hx => by
    rcases Nat.lt_or_ge j gs.length with h9 | h9
    · rw [List.getElem?_append_left h9] at hx; exact .inl ⟨hx, by omega⟩
    · rw [List.getElem?_append_right h9] at hx
      have h8 := (List.getElem?_eq_some_iff.1 hx).1
      simp at h8
      have e : j = gs.length := by omega
      subst e
      simp at hx
      exact .inr ⟨hk, hx.symm⟩
  have pure1 : ∀ (i j : Nat) (x y : Value), (gs ++ [g])[i]? = some x → (gs ++ [g])[j]? = some y → i ≠ j → apI x y := fun i j x y hx hy hne => by
    rcases get i x hx with ⟨h1, h2⟩ | ⟨rfl, rfl⟩ <;> rcases get j y hy with ⟨h3, h4⟩ | ⟨rfl, rfl⟩
    · exact h.gg i j x y h1 h3 hne
    · exact (hi.ag i x h1).symm
    · exact hi.ag j y h3
    · exact absurd rfl hne
  have pure2 : ∀ (i j : Nat) (x y : Value), (gs ++ [g])[i]? = some x → vs[j]? = some y → i ≠ j → apI x y := fun i j x y hx hy hne => by
    rcases get i x hx with ⟨h1, h2⟩ | ⟨rfl, rfl⟩
    · exact h.gx i j x y h1 hy hne
    · exact hi.av j y hy (fun e => hne e.symm)
  have mkGr : apI v' v0 → (∀ {N : Nat} {x : Value} {cs : List Value}, w.ownsRow B K.t K.k x N cs → w'.ownsRow B K.t K.k x N cs) → w'.ownsRow B K.ts 1 v0 vs.length vs → GrG K mk w' B v0 v' vs (gs ++ [g]) n := fun h1 h2 h3 =>
    ⟨h3, hown, h1, ⟨fun j v hv => h2 (h.ix.own j v hv), h.ix.ap⟩, fun j x hx => by
      rcases get j x hx with ⟨h8, h9⟩ | ⟨rfl, rfl⟩
      · exact h2 (h.go j x h8)
      · exact h2 hi.own, pure1, pure2⟩
  rcases hc with ⟨b, cap, rfl, rfl, hg⟩ | ⟨hg, cap, rfl⟩
  · refine ⟨mkGr (fun b' e1 e2 => h.lg b' e1 e2) (fun h1 => rowI_grown (v := .slice (some ⟨b, 0, none⟩) gs.length cap) h1 hg (rowI_ty h.gr h1 (fun e => hne e.symm))) (rowI_grown (v := .slice (some ⟨b, 0, none⟩) gs.length cap) h.lr hg h.lg), ?_⟩
    exact ⟨hg, .inl rfl⟩
  · have hb : Below w.heap.size w w' := ⟨hg.os, hg.tape, hg.output, hg.size, fun k9 h9 => hg.block k9 h9 (fun e9 => by cases e9)⟩
    refine ⟨mkGr (fun b e1 e2 => ?_) (fun h1 => rowI_below h1 hb) (rowI_below h.lr hb), grown_any hg, .inr rfl⟩
    cases e1
    exact absurd (World.ownsRow.lt h.lr _ e2).2 (Nat.lt_irrefl _)
end
end Go.Proofs.YtdoikcolkbjnfaaGreat
