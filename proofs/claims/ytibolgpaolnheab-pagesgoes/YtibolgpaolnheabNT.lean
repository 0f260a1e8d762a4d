import Derived.Test.YtibolgpaolnheabNAl
import Derived.Test.YtibolgpaolnheabNS
namespace Go.Proofs.Ytibolgpaolnheab
set_option linter.unusedVariables false
set_option linter.unusedSimpArgs false
open Go.RowKit Go.Maps
variable {w w' : World} {B : Nat} {v : Value} {xs : List Nat}
/-- append of numbers, and where the row lies then -/
theorem wp_appN2 {ops : Array Oper} {rest : List Oper} {o : Oper} {a : Act} {Q : Exit → Act → World → Prop} (hgd : o.guard = none) (s x : Operand)
    (ho : o.op = .call { callee := .builtin .append, args := #[s, x], argTypes := #[tUs, tUs] }) (B : Nat) (v : Value) (xs ys : List Nat)
    (hs : a.eval s = v) (hown : OwnU w B v xs) (N n : Nat) (hn : n = ys.length) (hx : a.eval x = .slice (some ⟨N, 0, none⟩) n n) (cs : Array Value) (hcs : cs = (ys.map uv).toArray) (hN : w.heap[N]? = some (.cells cs tU1 (0, 0)))
    (hb : xs.length + n ≤ 5000000000000) (hbase : B ≤ w.heap.size)
    (h : ∀ v' w', OwnU w' B v' (xs ++ ys) → w.grownBy w' v.ownBlock → (v'.ownBlock = v.ownBlock ∨ v'.ownBlock = some w.heap.size) → wpList Try.prog ops Q rest (a.put o.dst v') w') : wpList Try.prog ops Q (o :: rest) a w := by
  subst hn hcs
  obtain ⟨i0, hi, hz0, hz1, hz2⟩ := info_parts info_u1
  obtain ⟨v', w', hr, h2, h3, -, h5⟩ := run_append_own_at (P := Try.prog) w B tUs o.type tU1 i0 _ 1 8 Try.underlying29 hi hz0 hz1 hz2 rfl (by decide) v xs.length (xs.map uv) hown ⟨N, 0, none⟩ ys.length ys.length (ys.map uv) (by simp) (by
    intro j u hj
    rw [Go.WideShapes.add_plain, Nat.zero_add, cell_of_row _ _ _ _ _ _ hN]
    simpa using hj) (by intro u hu; obtain ⟨y, -, rfl⟩ := List.mem_map.1 hu; rfl) (by simp only [maxLen]; omega) (by omega) hbase
  refine Lib.wpList_append_run w hgd s x tUs tUs ho v _ hs hx v' w' hr (h v' w' ?_ h3 h5)
  unfold OwnU
  rw [List.length_append, List.map_append]
  exact h2
theorem grown_al {u : World} (o1 o2 : Obj) {row : Option Nat} (hg : ((w.alloc o1).alloc o2).grownBy u row) : w.grownBy u row :=
  ⟨hg.os, hg.tape, hg.output, by have := hg.size; simp at this; omega, fun k hk hn => (hg.block k (by simp; omega) hn).trans ((al (al (Below.refl w.heap.size w) o1) o2).block k hk)⟩
section
set_option maxRecDepth 20000
set_option maxHeartbeats 3200000
theorem two_k (v : Value) (xs : List Nat) (s1 s2 n : Nat) (w : World) (h : OwnU w B v xs) (hB : B ≤ w.heap.size) (hl : xs.length ≤ 4398046511104) :
    Calls Try.prog 27 #[v, sv (s1, s2), uv n] w fun e w' => ∃ v', e = .returned v' ∧ OwnU w' B v' (xs ++ [s1, s2, n]) ∧ w.grownBy w' v.ownBlock ∧ (∀ b, v'.ownBlock = some b → v.ownBlock = some b ∨ w.heap.size ≤ b) := by
  have HO : Hid (∀ ob, OwnU (w.alloc ob) B v xs) := fun ob => OwnU.below h (al (Below.refl _ _) _)
  have HL : Hid (xs.length ≤ 4398046511104) := hl
  have HBB : Hid (B ≤ w.heap.size) := hB
  obtain ⟨a9, c9, hv9, -⟩ := OwnU.val h
  obtain ⟨M, hM⟩ : ∃ M, M = xs.length := ⟨_, rfl⟩
  rw [← hM] at hv9
  subst hv9
  clear h hB hl hM
  go_enter Try.func27, Try.ntmps27
  go_wp2_with (first | (at_builtin; go_loud (refine wp_appN2 rfl _ _ rfl B _ xs [s1, s2, n] (by rfl) (OwnU.below (HO.out _) (al (Below.refl _ _) _)) _ 3 rfl (by rfl) _ rfl (two_new w _ _).2 (by have := HL.out; omega) (by have := HBB.out; simp; omega) ?_; intro v2 w2 hown hg hbk; have HOWN2 : Hid _ := hown; have HG2 : Hid _ := grown_al _ _ hg; have HBK : Hid _ := hbk; clear hown hg hbk)))
  go_ret
  refine ⟨_, rfl, HOWN2.out, HG2.out, fun b hb => ?_⟩
  have h9 := HBK.out
  rcases h9 with h9 | h9
  · left; rw [← h9]; exact hb
  · right; have h8 := h9.symm.trans hb; have h7 := Option.some.inj h8; simp at h7; omega
end
end Go.Proofs.Ytibolgpaolnheab
