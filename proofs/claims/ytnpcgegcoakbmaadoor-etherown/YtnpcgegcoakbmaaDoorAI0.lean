import Derived.Test.YtnpcgegcoakbmaaDoorBase
import Derived.Test.YtnpcgegcoakbmaaDoorRegn
import Derived.Deep.MidRow
import Derived.Deep.WholeRow
import Derived.Laws.CopyOwn
import Derived.OwnWalk
import Derived.Laws.MakeOwn
import Derived.Deep.AppendLies
import Derived.Laws.AppendOwnNone
import Derived.Laws.OwnMore
import Derived.Lib.AppendZeros
namespace Go.Proofs.YtnpcgegcoakbmaaDoor
set_option linter.unusedVariables false
set_option linter.unusedSimpArgs false
open Go.RowKit
/-- not in one block -/
def apI (x y : Value) : Prop := ∀ b, x.ownBlock = some b → y.ownBlock = some b → False
theorem apI.symm {x y : Value} (h : apI x y) : apI y x := fun b h1 h2 => h b h2 h1
variable {w w' : World} {B : Nat}
theorem rowI_blk {t : TypeId} {sz n : Nat} {x : Value} {cs : List Value} (h : w.ownsRow B t sz x n cs) (b : Nat) (hb : x.ownBlock = some b) : ∃ cur, w.heap[b]? = some (.cells cur t (0, 0)) := by
  rcases h.2 with ⟨rfl, -⟩ | ⟨g', cap, cur, rfl, -, hg, -⟩
  · cases hb
  · cases hb; exact ⟨cur, hg⟩
theorem rowI_kept {t : TypeId} {sz n : Nat} {x : Value} {cs : List Value} (h : w.ownsRow B t sz x n cs) (hk : ∀ b, x.ownBlock = some b → w'.heap[b]? = w.heap[b]?) : w'.ownsRow B t sz x n cs := by
  refine ⟨h.1, ?_⟩
  rcases h.2 with h0 | ⟨g, cap, cur, e, hB, hg, r⟩
  · exact .inl h0
  · exact .inr ⟨g, cap, cur, e, hB, (hk g (by rw [e]; rfl)).trans hg, r⟩
theorem rowI_below {t : TypeId} {sz n : Nat} {x : Value} {cs : List Value} (h : w.ownsRow B t sz x n cs) (hb : Below w.heap.size w w') : w'.ownsRow B t sz x n cs := rowI_kept h (fun b h9 => hb.block b (World.ownsRow.lt h b h9).2)
/-- rows of other types lie apart -/
theorem rowI_ty {t t' : TypeId} {sz sz' n n' : Nat} {x x' : Value} {cs cs' : List Value} (h : w.ownsRow B t sz x n cs) (h' : w.ownsRow B t' sz' x' n' cs') (hne : t ≠ t') : apI x x' := fun b h1 h2 => by
  obtain ⟨c1, e1⟩ := rowI_blk h b h1
  obtain ⟨c2, e2⟩ := rowI_blk h' b h2
  rw [e1] at e2
  injection e2 with e2
  injection e2 with e3 e4
  exact hne e4
/-- a row grows or is written to: what lies apart stays -/
theorem rowI_grown {t : TypeId} {sz n : Nat} {x v : Value} {cs : List Value} (h : w.ownsRow B t sz x n cs) (hg : w.grownBy w' v.ownBlock) (ha : apI v x) : w'.ownsRow B t sz x n cs :=
  rowI_kept h (fun b hb => hg.block b (World.ownsRow.lt h b hb).2 (fun e => ha b e.symm hb))
/-- a first part of a row -/
theorem rowI_pre {t : TypeId} {g n m cap : Nat} {cs : List Value} (h : w.ownsRow B t 1 (.slice (some ⟨g, 0, none⟩) m cap) m cs) (hn : n ≤ m) : w.ownsRow B t 1 (.slice (some ⟨g, 0, none⟩) n cap) n (cs.take n) := by
  have hl := h.1
  refine ⟨by rw [List.length_take]; omega, ?_⟩
  rcases h.2 with ⟨e, -⟩ | ⟨g', cap', cur, e, hB, hg, h1, h2, h3, h4⟩
  · cases e
  · cases e
    refine .inr ⟨_, _, cur, rfl, hB, hg, by omega, h2, h3, ?_⟩
    rw [← h4, List.take_take]
    congr 1
    omega
theorem rowI_val {t : TypeId} {n : Nat} {x : Value} {cs : List Value} (h : w.ownsRow B t 1 x n cs) : ∃ a c, x = .slice a n c ∧ n ≤ c ∧ ∀ j (hj : j < n), ∃ g, a = some ⟨g, 0, none⟩ ∧ w.cell? ⟨g, j, none⟩ = cs[j]? := by
  have h' := h
  rcases h.2 with ⟨rfl, h0⟩ | ⟨g, cap, cur, rfl, hB, hg, hc, r⟩
  · exact ⟨none, 0, by rw [h0], by omega, fun j hj => by omega⟩
  · exact ⟨_, cap, rfl, hc, fun j hj => ⟨g, rfl, World.ownsRow.cellAt h' j (by omega)⟩⟩
/-- append of one cell: in the block, or in a new one -/
theorem run_app1I {w : World} (B : Nat) (t ty e : TypeId) (z : Value) (by_ : Nat) (ht : Tryd.prog.underlying t = some (.slice e)) (hinf : (Tryd.prog.info? e).map (fun i => (i.zero, i.size, i.bytes)) = some (some z, 1, by_)) (hz : z.cells.size = 1)
    (v : Value) (xs : List Value) (hown : w.ownsRow B e 1 v xs.length xs) (g0 : Nat) (c : Nat) (u : Value) (hu : w.heap[g0]? = some (.cells #[u] e (0, 0))) (h1 : u.oneCell' = true) (h63 : xs.length + 1 ≤ 140737488355328) (hby : (xs.length + 1) * by_ ≤ 140737488355328) (hbase : B ≤ w.heap.size) :
    ∃ v' w', (Builtin.append_ #[t, t] ty #[v, .slice (some ⟨g0, 0, none⟩) 1 c]).run Tryd.prog w = .ok v' w' ∧ w'.ownsRow B e 1 v' (xs ++ [u]).length (xs ++ [u]) ∧
      ((∃ g cap, v = .slice (some ⟨g, 0, none⟩) xs.length cap ∧ v' = .slice (some ⟨g, 0, none⟩) (xs ++ [u]).length cap ∧ w.grownBy w' (some g)) ∨ (w.grownBy w' none ∧ ∃ cap, v' = .slice (some ⟨w.heap.size, 0, none⟩) (xs ++ [u]).length cap)) := by
  obtain ⟨i, hi, hz0, hz1, hz2⟩ := info_parts hinf
  have hnews : ∀ j x, [u][j]? = some x → w.cell? ((⟨g0, 0, none⟩ : Addr).add j) = some x := World.news_of_block hu
  have hlen : (xs ++ [u]).length = xs.length + 1 := by simp
  have grown : ∀ (old : Nat), (w.drew.alloc (.cells (xs.toArray ++ [u].toArray ++ Builtin.zeroCells z.cells (grownCap w (xs.length + 1) old e - (xs.length + 1))) e)).ownsRow B e 1 (.slice (some ⟨w.heap.size, 0, none⟩) (xs.length + 1) (grownCap w (xs.length + 1) old e)) (xs.length + 1) (xs ++ [u]) ∧
      w.grownBy (w.drew.alloc (.cells (xs.toArray ++ [u].toArray ++ Builtin.zeroCells z.cells (grownCap w (xs.length + 1) old e - (xs.length + 1))) e)) none := by
    intro old
    have hge := grownCap_ge w (xs.length + 1) old e
    have hcm : grownCap w (xs.length + 1) old e ≤ maxLen := grownCap_le_maxLen w (xs.length + 1) old e (by simp only [maxLen]; omega)
    refine ⟨⟨by simp, .inr ⟨w.heap.size, _, _, rfl, hbase, heap_alloc_new w.drew _, hge, hcm, ?_, ?_⟩⟩, ⟨rfl, rfl, rfl, by simp, fun k hk _ => heap_alloc_old w.drew _ hk⟩⟩
    · simp only [Array.size_append, List.size_toArray, size_zeroCells, hz, List.length_singleton]
      omega
    · simp only [Array.toList_append, Nat.mul_one]
      rw [← hlen]
      exact List.take_left
  rw [hlen]
  rcases hown.2 with ⟨rfl, h0⟩ | ⟨g, cap, cur, rfl, hbg, hg, hnc, hcm, hcs, htake⟩
  · obtain rfl : xs = [] := List.eq_nil_of_length_eq_zero h0
    have hr := run_append_nil (P := Tryd.prog) w t ty e i z ht hi hz0 ⟨g0, 0, none⟩ 1 c [u] (by rw [hz1]; rfl) hnews (by omega) (by omega) (by rw [hz2]; simp only [List.length_nil, Nat.zero_add, Nat.one_mul] at hby ⊢; omega)
    have hgr := grown 0
    simp only [List.length_nil, Nat.zero_add, List.nil_append, Array.empty_append] at hgr ⊢
    exact ⟨_, _, hr, hgr.1, .inr ⟨hgr.2, _, rfl⟩⟩
  · by_cases hroom : xs.length + 1 ≤ cap
    · have hfit : xs.length * i.size + [u].length ≤ cur.size := by rw [hz1, hcs]; simp; omega
      have hr := run_append_room (P := Tryd.prog) w t ty e i ht hi g xs.length cap cur hg ⟨g0, 0, none⟩ 1 c [u] (by rw [hz1]; rfl) hnews (by intro x hx; simp at hx; subst hx; exact h1) hroom hfit
      rw [hz1] at hr
      simp only [Nat.mul_one] at hr htake hcs
      refine ⟨_, _, hr, ⟨by simp, .inr ⟨g, cap, _, rfl, hbg, setRow_heap w g cur _ e _ hg, hroom, hcm, ?_, ?_⟩⟩, .inl ⟨g, cap, rfl, rfl, ⟨rfl, rfl, rfl, by simp, fun k _ hk => setRow_other w g k _ (fun e => hk (by rw [e]))⟩⟩⟩
      · simp only [List.size_toArray, List.length_append, List.length_take, List.length_drop, Array.length_toList, List.length_singleton]
        omega
      · rw [htake, Nat.mul_one, ← hlen]
        exact List.take_left
    · have holds : ∀ j x, xs[j]? = some x → w.cell? ((⟨g, 0, none⟩ : Addr).add j) = some x := hown.cells (g := g) rfl
      have hr := run_append_grow (P := Tryd.prog) w t ty e i z ht hi hz0 ⟨g, 0, none⟩ xs.length cap xs (by rw [hz1]; simp) holds ⟨g0, 0, none⟩ 1 c [u] (by rw [hz1]; rfl) hnews (by omega) (by omega) (growslice_fits (by omega) (by rw [hz2]; exact hby))
      have hgr := grown cap
      exact ⟨_, _, hr, hgr.1, .inr ⟨hgr.2, _, rfl⟩⟩

/-- append of one cell, inside a list of operations -/
theorem wp_app1I {ops : Array Oper} {rest : List Oper} {o : Oper} {a : Act} {Q : Exit → Act → World → Prop} (hgd : o.guard = none) (s x : Operand) (t e : TypeId) (z : Value) (by_ : Nat)
    (ho : o.op = .call { callee := .builtin .append, args := #[s, x], argTypes := #[t, t] }) (ht : Tryd.prog.underlying t = some (.slice e)) (hinf : (Tryd.prog.info? e).map (fun i => (i.zero, i.size, i.bytes)) = some (some z, 1, by_)) (hz : z.cells.size = 1) (B : Nat) (v : Value) (xs : List Value)
    (hs : a.eval s = v) (hown : w.ownsRow B e 1 v xs.length xs) (g0 c : Nat) (u : Value) (hx : a.eval x = .slice (some ⟨g0, 0, none⟩) 1 c) (hu : w.heap[g0]? = some (.cells #[u] e (0, 0))) (h1 : u.oneCell' = true) (h63 : xs.length + 1 ≤ 140737488355328) (hby : (xs.length + 1) * by_ ≤ 140737488355328) (hbase : B ≤ w.heap.size)
    (h : ∀ v' w', w'.ownsRow B e 1 v' (xs ++ [u]).length (xs ++ [u]) → ((∃ g cap, v = .slice (some ⟨g, 0, none⟩) xs.length cap ∧ v' = .slice (some ⟨g, 0, none⟩) (xs ++ [u]).length cap ∧ w.grownBy w' (some g)) ∨ (w.grownBy w' none ∧ ∃ cap, v' = .slice (some ⟨w.heap.size, 0, none⟩) (xs ++ [u]).length cap)) → wpList Tryd.prog ops Q rest (a.put o.dst v') w') : wpList Tryd.prog ops Q (o :: rest) a w := by
  obtain ⟨v', w', hr, h2, h3⟩ := run_app1I (w := w) B t o.type e z by_ ht hinf hz v xs hown g0 c u hu h1 h63 hby hbase
  exact Lib.wpList_append_run w hgd s x t t ho v _ hs hx v' w' hr (h v' w' h2 h3)
end Go.Proofs.YtnpcgegcoakbmaaDoor
