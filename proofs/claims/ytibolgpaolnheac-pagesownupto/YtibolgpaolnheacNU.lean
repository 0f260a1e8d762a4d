import Derived.Test.YtibolgpaolnheacQPl
import Derived.Maps.AppendAt
namespace Go.Proofs.Ytibolgpaolnheac
set_option linter.unusedVariables false
set_option linter.unusedSimpArgs false
open Go.RowKit Go.Maps
abbrev tUs : TypeId := 32
abbrev tU1 : TypeId := 34
abbrev uv (n : Nat) : Value := .int .u64 (n : Int)
theorem info_u1 : (Try.prog.info? tU1).map (fun i => (i.zero, i.size, i.bytes)) = some (some (.int .u64 0), 1, 8) := by kernel_rfl
/-- a row of numbers of the call's own -/
def OwnU (w : World) (B : Nat) (v : Value) (xs : List Nat) : Prop := w.ownsRow B tU1 1 v xs.length (xs.map uv)
variable {w w' : World} {B : Nat} {v : Value} {xs : List Nat}
theorem OwnU.below (h : OwnU w B v xs) (hb : Below w.heap.size w w') : OwnU w' B v xs := by
  refine ⟨h.1, ?_⟩
  rcases h.2 with h0 | ⟨g, cap, cur, e, hB, hg, r⟩
  · exact .inl h0
  · exact .inr ⟨g, cap, cur, e, hB, (hb.block g (Array.getElem?_eq_some_iff.1 hg).1).trans hg, r⟩
theorem OwnU.nil (w : World) (B : Nat) : OwnU w B (.slice none 0 0) [] := World.ownsRow_nil _ _ _ _
theorem OwnU.lit (w : World) (hB : B ≤ w.heap.size) (xs : List Nat) (n : Nat) (hn : n = xs.length) (hm : n ≤ 1000) : OwnU (w.alloc (.cells (xs.map uv).toArray tU1)) B (.slice (some ⟨w.heap.size, 0, none⟩) n n) xs := by
  subst hn
  have h9 := World.ownsRow_lit (base := B) (e := tU1) (size := 1) w (xs.map uv).toArray xs.length hB (by simp only [maxLen]; omega) (by simp)
  unfold OwnU
  simpa using h9
theorem OwnU.base {B' : Nat} (h : OwnU w B v xs) (hB : B' ≤ B) : OwnU w B' v xs := by
  refine ⟨h.1, ?_⟩
  rcases h.2 with h0 | ⟨g, cap, cur, e, hB2, r⟩
  · exact .inl h0
  · exact .inr ⟨g, cap, cur, e, Nat.le_trans hB hB2, r⟩
theorem OwnU.val (h : OwnU w B v xs) : ∃ a c, v = .slice a xs.length c ∧ xs.length ≤ c ∧ ∀ j (hj : j < xs.length), ∃ g, a = some ⟨g, 0, none⟩ ∧ w.cell? ⟨g, j, none⟩ = some (uv xs[j]) := by
  have h' := h
  rcases h.2 with ⟨rfl, h0⟩ | ⟨g, cap, cur, rfl, hB, hg, hn, hm, r⟩
  · obtain rfl : xs = [] := List.eq_nil_of_length_eq_zero h0
    exact ⟨none, 0, rfl, Nat.le_refl _, fun j hj => absurd hj (Nat.not_lt_zero _)⟩
  · refine ⟨_, cap, rfl, hn, fun j hj => ⟨g, rfl, ?_⟩⟩
    rw [World.ownsRow.cellAt h' j (by omega)]
    simp [hj]
theorem bit_t (b : Bool) (w : World) : Calls Try.prog 18 #[.bool b] w fun e w' => e = .returned (uv (if b then 1 else 0)) ∧ w' = w := by
  cases b <;> (go_enter Try.func18, Try.ntmps18; go_wp2; go_ret; exact ⟨rfl, rfl⟩)
/-- append of numbers that were laid -/
theorem wp_appN {ops : Array Oper} {rest : List Oper} {o : Oper} {a : Act} {Q : Exit → Act → World → Prop} (hgd : o.guard = none) (s x : Operand)
    (ho : o.op = .call { callee := .builtin .append, args := #[s, x], argTypes := #[tUs, tUs] }) (B : Nat) (v : Value) (xs ys : List Nat)
    (hs : a.eval s = v) (hown : OwnU w B v xs) (N n : Nat) (hn : n = ys.length) (hx : a.eval x = .slice (some ⟨N, 0, none⟩) n n) (cs : Array Value) (hcs : cs = (ys.map uv).toArray) (hN : w.heap[N]? = some (.cells cs tU1 (0, 0)))
    (hb : xs.length + n ≤ 5000000000000) (hbase : B ≤ w.heap.size)
    (h : ∀ v' w', OwnU w' B v' (xs ++ ys) → w.grownBy w' v.ownBlock → wpList Try.prog ops Q rest (a.put o.dst v') w') : wpList Try.prog ops Q (o :: rest) a w := by
  subst hn hcs
  obtain ⟨i0, hi, hz0, hz1, hz2⟩ := info_parts info_u1
  refine wpList_append_own w hgd s x tUs ho B tU1 i0 _ 1 8 Try.underlying32 hi hz0 hz1 hz2 rfl (by decide) v xs.length (xs.map uv) hs hown ⟨N, 0, none⟩ ys.length ys.length (ys.map uv) hx (by simp) ?_ (by intro u hu; obtain ⟨y, -, rfl⟩ := List.mem_map.1 hu; rfl) (by simp only [maxLen]; omega) (by omega) hbase ?_
  · have h9 := World.news_of_block hN
    simpa using h9
  · intro v' w' h1 h2 _
    refine h v' w' ?_ h2
    unfold OwnU
    rw [List.length_append, List.map_append]
    exact h1
section
set_option maxRecDepth 20000
set_option maxHeartbeats 3200000
theorem two_t (v : Value) (xs : List Nat) (s1 s2 n : Nat) (w : World) (h : OwnU w B v xs) (hB : B ≤ w.heap.size) (hl : xs.length ≤ 4398046511104) :
    Calls Try.prog 24 #[v, sv (s1, s2), uv n] w fun e w' => ∃ v', e = .returned v' ∧ OwnU w' B v' (xs ++ [s1, s2, n]) ∧ Below B w w' := by
  have HO : Hid (∀ ob, OwnU (w.alloc ob) B v xs) := fun ob => OwnU.below h (al (Below.refl _ _) _)
  have HO0 : Hid (OwnU w B v xs) := h
  have HL : Hid (xs.length ≤ 4398046511104) := hl
  have HBB : Hid (B ≤ w.heap.size) := hB
  obtain ⟨a9, c9, hv9, -⟩ := OwnU.val h
  obtain ⟨M, hM⟩ : ∃ M, M = xs.length := ⟨_, rfl⟩
  rw [← hM] at hv9
  subst hv9
  clear h hB hl hM
  go_enter Try.func24, Try.ntmps24
  go_wp2_with (first | (at_builtin; go_loud (refine wp_appN rfl _ _ rfl B _ xs [s1, s2, n] (by rfl) (OwnU.below (HO.out _) (al (Below.refl _ _) _)) _ 3 rfl (by rfl) _ rfl (by first | exact (two_new w _ _).2 | exact heap_alloc_new _ _) (by have := HL.out; omega) (by have := HBB.out; simp; omega) ?_; intro v2 w2 hown hg; have HOWN2 : Hid _ := hown; have HBEL2 : Hid (Below B w w2) := ((al (al (Below.refl w.heap.size w) _) _).mono HBB.out).grown hg (by have := HBB.out; simp; omega) (fun k hk => (World.ownsRow.lt HO0.out k hk).1); clear hown hg)))
  go_ret
  exact ⟨_, rfl, HOWN2.out, HBEL2.out⟩
end
end Go.Proofs.Ytibolgpaolnheac
