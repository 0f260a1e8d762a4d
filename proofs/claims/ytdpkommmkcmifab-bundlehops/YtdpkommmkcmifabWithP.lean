import Derived.Test.YtdpkommmkcmifabTurn
import Derived.Deep.AppendLies
namespace Go.Proofs.Ytdpkommmkcmifab
set_option linter.unusedVariables false
set_option linter.unusedSimpArgs false
open Go.RowKit
theorem infoRB : (Try.prog.info? 89).map (fun i => (i.zero, i.size, i.bytes)) = some (some (.agg #[.int .u64 0, .int .u64 0, .int .u64 0, .slice none 0 0]), 4, 48) := by kernel_rfl
/-- append(nil, l...), l blocks that can be read -/
theorem wp_copyBlk {w : World} {ops : Array Oper} {rest : List Oper} {o : Oper} {a : Act} {Q : Exit → Act → World → Prop} (hgd : o.guard = none) (s x : Operand)
    (ho : o.op = .call { callee := .builtin .append, args := #[s, x], argTypes := #[55, 55] }) (l : List Blk) (hp : 0 < l.length) (so : Option Addr) (cap : Nat)
    (hs : a.eval s = .slice none 0 0) (hx : a.eval x = .slice so l.length cap) (hr : RdBlks w so l) (hb : l.length ≤ 2932031007317)
    (h : ∀ cap' C w', w'.heap[w.heap.size]? = some (.cells C 89 (0, 0)) → l.length ≤ cap' → C.size = cap' * 4 → (∀ j (hj : j < l.length), BlkE w' w.heap.size (j * 4) l[j]) → Below w.heap.size w w' → wpList Try.prog ops Q rest (a.put o.dst (.slice (some ⟨w.heap.size, 0, none⟩) l.length cap')) w') : wpList Try.prog ops Q (o :: rest) a w := by
  obtain ⟨i0, hi, hz0, hz1, hz2⟩ := info_parts infoRB
  obtain ⟨g, o', rfl, hc⟩ := hr hp
  obtain ⟨news, hl, hn, h1, hat⟩ := rows_of hc
  refine wpList_append_lies w hgd s x 55 ho 0 89 i0 _ 4 48 Try.underlying55 hi hz0 hz1 hz2 rfl (by decide) (.slice none 0 0) 0 [] hs (World.ownsRow_nil _ _ _ _) ⟨g, o', none⟩ l.length cap news hx hl ?_ h1 hp (by simp only [maxLen]; omega) (by omega) (Nat.zero_le _) w.heap.size rfl ?_
  · intro j u hu
    have hadd : (⟨g, o', none⟩ : Addr).add j = ⟨g, o' + j, none⟩ := by unfold Addr.add; split <;> simp_all
    rw [hadd]
    exact hn j u hu
  · intro g' cap' w' hown hg hwh hlt
    have hg' : g' = w.heap.size := by
      rcases hwh with e | e
      · cases e
      · exact e
    subst hg'
    have hbel : Below w.heap.size w w' := (Below.refl w.heap.size w).grown hg (Nat.le_refl _) (fun q hq => by cases hq)
    rw [Nat.zero_add] at hown ⊢
    obtain ⟨hlen, hrow⟩ := hown
    rcases hrow with ⟨e, -⟩ | ⟨g2, cap2, cur, e, -, hcur, hle, -, hsz, htk⟩
    · cases e
    · simp only [Value.slice.injEq, Option.some.injEq, Addr.mk.injEq, true_and, and_true] at e
      obtain ⟨rfl, rfl⟩ := e
      refine h cap' cur w' hcur hle hsz (fun j hj => ?_) hbel
      obtain ⟨a', c', n0, n1, n2, n3, hrd, hlc, hnn⟩ := hat j hj
      have hcell : ∀ i u, i < l.length * 4 → news[i]? = some u → w'.cell? ⟨w.heap.size, i, none⟩ = some u := by
        intro i u hi hu
        rw [cell_of_row w' w.heap.size i _ _ _ hcur, ← Array.getElem?_toList, ← List.getElem?_take_of_lt hi, htk]
        simpa using hu
      refine ⟨a', c', hcell _ _ (by omega) n0, hcell _ _ (by omega) n1, hcell _ _ (by omega) n2, hcell _ _ (by omega) n3, hrd.below hbel, hlc, hnn, fun hp2 q hq => ?_⟩
      obtain ⟨b2, o2, e2, hc2⟩ := hrd hp2
      have := World.block_lt_of_cell? w _ (hc2 0 hp2)
      rw [e2] at hq
      cases hq
      simp at this ⊢
      omega
end Go.Proofs.Ytdpkommmkcmifab
