import Derived.Test.YtdoikcolkbjnfaaGreatLLf
import Derived.Test.YtdoikcolkbjnfaaGreatAPB
import Derived.Test.YtdoikcolkbjnfaaGreatAPR
import Derived.Test.YtdoikcolkbjnfaaGreatAPS
import Derived.Deep.AppendLies
namespace Go.Proofs.YtdoikcolkbjnfaaGreat
set_option linter.unusedVariables false
set_option linter.unusedSimpArgs false
open Go.RowKit Go.Maps
abbrev tB8 : TypeId := 34
abbrev tSt : TypeId := 9
abbrev tRL : TypeId := 39
abbrev tSL : TypeId := 47
def strV (x : List UInt8) : Value := .string ⟨x.toArray⟩
/-- what was told: blocks, texts, ranges, lists of sessions, each in a row -/
structure OwR (w : World) (B : Nat) (vb vt vg vl : Value) (bs gs ls : List Value) (T U : List (List UInt8)) (R : List (List Rg)) (L : List (List Ss)) : Prop where
  rb : w.ownsRow B tB8 1 vb bs.length bs
  rt : w.ownsRow B tSt 1 vt U.length (U.map strV)
  rg : w.ownsRow B tRL 1 vg gs.length gs
  rl : w.ownsRow B tSL 1 vl ls.length ls
  fb : RowsAt KBy w B bs (fun j => T[j]?.getD [])
  fg : RowsAt KRg w B gs (fun j => R[j]?.getD [])
  fl : RowsAt KSs w B ls (fun j => L[j]?.getD [])
  nb : T.length = bs.length
  ng : R.length = gs.length
  nl : L.length = ls.length
  bb : ∀ x ∈ T, x.length ≤ 1048576
  bg : ∀ x ∈ R, x.length ≤ 64
  bl : ∀ x ∈ L, x.length ≤ 4096
def obI (v : Value) (b : Nat) : Prop := v.ownBlock = some b
def footR2 (vb vt vg vl : Value) (bs gs ls : List Value) (b : Nat) : Prop := obI vb b ∨ obI vt b ∨ obI vg b ∨ obI vl b ∨ (∃ v ∈ bs, obI v b) ∨ (∃ v ∈ gs, obI v b) ∨ ∃ v ∈ ls, obI v b
section
variable {w w' : World} {B : Nat} {vb vt vg vl : Value} {bs gs ls : List Value} {T U : List (List UInt8)} {R : List (List Rg)} {L : List (List Ss)}
theorem RowsAt.kept2 {α : Type} {K : Kd α} {vs : List Value} {C : Nat → List α} (h : RowsAt K w B vs C) (hk : ∀ v ∈ vs, ∀ b, obI v b → w'.heap[b]? = w.heap[b]?) : RowsAt K w' B vs C := ⟨fun j v hv => rowI_kept (h.own j v hv) (fun b hb => hk v (List.mem_of_getElem? hv) b hb), h.ap⟩
theorem RowsAt.lt2 {α : Type} {K : Kd α} {vs : List Value} {C : Nat → List α} (h : RowsAt K w B vs C) {v : Value} (hv : v ∈ vs) {b : Nat} (hb : obI v b) : B ≤ b ∧ b < w.heap.size := by
  obtain ⟨j, hj⟩ := List.mem_iff_getElem?.1 hv
  exact World.ownsRow.lt (h.own j v hj) b hb
theorem OwR.lt (h : OwR w B vb vt vg vl bs gs ls T U R L) {b : Nat} (hb : footR2 vb vt vg vl bs gs ls b) : B ≤ b ∧ b < w.heap.size := by
  rcases hb with hb | hb | hb | hb | ⟨v, hv, hb⟩ | ⟨v, hv, hb⟩ | ⟨v, hv, hb⟩
  · exact World.ownsRow.lt h.rb b hb
  · exact World.ownsRow.lt h.rt b hb
  · exact World.ownsRow.lt h.rg b hb
  · exact World.ownsRow.lt h.rl b hb
  · exact h.fb.lt2 hv hb
  · exact h.fg.lt2 hv hb
  · exact h.fl.lt2 hv hb
theorem OwR.kept (h : OwR w B vb vt vg vl bs gs ls T U R L) (hk : ∀ b, footR2 vb vt vg vl bs gs ls b → w'.heap[b]? = w.heap[b]?) : OwR w' B vb vt vg vl bs gs ls T U R L :=
  ⟨rowI_kept h.rb (fun b hb => hk b (.inl hb)), rowI_kept h.rt (fun b hb => hk b (.inr (.inl hb))), rowI_kept h.rg (fun b hb => hk b (.inr (.inr (.inl hb)))), rowI_kept h.rl (fun b hb => hk b (.inr (.inr (.inr (.inl hb))))), h.fb.kept2 (fun v hv b hb => hk b (.inr (.inr (.inr (.inr (.inl ⟨v, hv, hb⟩)))))), h.fg.kept2 (fun v hv b hb => hk b (.inr (.inr (.inr (.inr (.inr (.inl ⟨v, hv, hb⟩))))))), h.fl.kept2 (fun v hv b hb => hk b (.inr (.inr (.inr (.inr (.inr (.inr ⟨v, hv, hb⟩))))))), h.nb, h.ng, h.nl, h.bb, h.bg, h.bl⟩
theorem OwR.nil (w : World) (B : Nat) : OwR w B (.slice none 0 0) (.slice none 0 0) (.slice none 0 0) (.slice none 0 0) [] [] [] [] [] [] [] :=
  ⟨World.ownsRow_nil _ _ _ _, World.ownsRow_nil _ _ _ _, World.ownsRow_nil _ _ _ _, World.ownsRow_nil _ _ _ _, ⟨fun j v hv => by simp at hv, List.Pairwise.nil⟩, ⟨fun j v hv => by simp at hv, List.Pairwise.nil⟩, ⟨fun j v hv => by simp at hv, List.Pairwise.nil⟩, rfl, rfl, rfl, (fun x hx => by cases hx), (fun x hx => by cases hx), (fun x hx => by cases hx)⟩
/-- a family and one more list -/
theorem RowsAt.snoc {α : Type} {K : Kd α} {vs : List Value} {X : List (List α)} (h : RowsAt K w B vs (fun j => X[j]?.getD [])) (hn : X.length = vs.length) {u : Value} {x : List α} (hu : OwnG K w B u x) (ha : ∀ v ∈ vs, apI v u) : RowsAt K w B (vs ++ [u]) (fun j => (X ++ [x])[j]?.getD []) := by
  refine ⟨fun j v hv => ?_, List.pairwise_append.2 ⟨h.ap, List.pairwise_singleton _ _, fun a ha' b hb => by rw [List.mem_singleton] at hb; subst hb; exact ha a ha'⟩⟩
  by_cases hj : j < vs.length
  · rw [List.getElem?_append_left hj] at hv
    have h9 := h.own j v hv
    rw [List.getElem?_append_left (by omega)]
    exact h9
  · rw [List.getElem?_append_right (by omega)] at hv
    have hj2 : j - vs.length = 0 := by
      have := (List.getElem?_eq_some_iff.1 hv).1
      simp at this
      omega
    rw [hj2] at hv
    cases hv
    rw [List.getElem?_append_right (by omega), show j - X.length = 0 by omega]
    exact hu
theorem RowsAt.gr {α : Type} {K : Kd α} {vs : List Value} {C : Nat → List α} {t : TypeId} {sz n : Nat} {v : Value} {cs : List Value} (h : RowsAt K w B vs C) (hv : w.ownsRow B t sz v n cs) (hg : w.grownBy w' v.ownBlock) (hne : t ≠ K.t) : RowsAt K w' B vs C := ⟨fun j u hu => rowI_grown (h.own j u hu) hg (rowI_ty hv (h.own j u hu) hne), h.ap⟩
theorem OwR.pushB (h : OwR w B vb vt vg vl bs gs ls T U R L) {v' u : Value} {x : List UInt8} (hown : w'.ownsRow B tB8 1 v' (bs ++ [u]).length (bs ++ [u])) (hg : w.grownBy w' vb.ownBlock) (hu : OwnG KBy w B u x) (ha : ∀ v ∈ bs, apI v u) (hx : x.length ≤ 1048576) : OwR w' B v' vt vg vl (bs ++ [u]) gs ls (T ++ [x]) U R L :=
  ⟨hown, rowI_grown h.rt hg (rowI_ty h.rb h.rt (by decide)), rowI_grown h.rg hg (rowI_ty h.rb h.rg (by decide)), rowI_grown h.rl hg (rowI_ty h.rb h.rl (by decide)), (h.fb.gr h.rb hg (by decide)).snoc h.nb (rowI_grown hu hg (rowI_ty h.rb hu (by decide))) ha, h.fg.gr h.rb hg (by decide), h.fl.gr h.rb hg (by decide), by simp [h.nb], h.ng, h.nl, fun y hy => by rcases List.mem_append.1 hy with h9 | h9; (exact h.bb y h9); (rw [List.mem_singleton] at h9; subst h9; exact hx), h.bg, h.bl⟩
theorem OwR.pushT (h : OwR w B vb vt vg vl bs gs ls T U R L) {v' : Value} {x : List UInt8} (hown : w'.ownsRow B tSt 1 v' (U.map strV ++ [strV x]).length (U.map strV ++ [strV x])) (hg : w.grownBy w' vt.ownBlock) : OwR w' B vb v' vg vl bs gs ls T (U ++ [x]) R L :=
  ⟨rowI_grown h.rb hg (rowI_ty h.rt h.rb (by decide)), by rw [show (U ++ [x]).length = (U.map strV ++ [strV x]).length by simp, List.map_append]; exact hown, rowI_grown h.rg hg (rowI_ty h.rt h.rg (by decide)), rowI_grown h.rl hg (rowI_ty h.rt h.rl (by decide)), h.fb.gr h.rt hg (by decide), h.fg.gr h.rt hg (by decide), h.fl.gr h.rt hg (by decide), h.nb, h.ng, h.nl, h.bb, h.bg, h.bl⟩
theorem OwR.pushG (h : OwR w B vb vt vg vl bs gs ls T U R L) {v' u : Value} {x : List Rg} (hown : w'.ownsRow B tRL 1 v' (gs ++ [u]).length (gs ++ [u])) (hg : w.grownBy w' vg.ownBlock) (hu : OwnG KRg w B u x) (ha : ∀ v ∈ gs, apI v u) (hx : x.length ≤ 64) : OwR w' B vb vt v' vl bs (gs ++ [u]) ls T U (R ++ [x]) L :=
  ⟨rowI_grown h.rb hg (rowI_ty h.rg h.rb (by decide)), rowI_grown h.rt hg (rowI_ty h.rg h.rt (by decide)), hown, rowI_grown h.rl hg (rowI_ty h.rg h.rl (by decide)), h.fb.gr h.rg hg (by decide), (h.fg.gr h.rg hg (by decide)).snoc h.ng (rowI_grown hu hg (rowI_ty h.rg hu (by decide))) ha, h.fl.gr h.rg hg (by decide), h.nb, by simp [h.ng], h.nl, h.bb, fun y hy => by rcases List.mem_append.1 hy with h9 | h9; (exact h.bg y h9); (rw [List.mem_singleton] at h9; subst h9; exact hx), h.bl⟩
theorem OwR.pushL (h : OwR w B vb vt vg vl bs gs ls T U R L) {v' u1 u2 u3 : Value} {x1 x2 x3 : List Ss} (hown : w'.ownsRow B tSL 1 v' (ls ++ [u1, u2, u3]).length (ls ++ [u1, u2, u3])) (hg : w.grownBy w' vl.ownBlock) (h1 : OwnG KSs w B u1 x1) (h2 : OwnG KSs w B u2 x2) (h3 : OwnG KSs w B u3 x3) (a1 : ∀ v ∈ ls, apI v u1) (a2 : ∀ v ∈ ls, apI v u2) (a3 : ∀ v ∈ ls, apI v u3) (a12 : apI u1 u2) (a13 : apI u1 u3) (a23 : apI u2 u3) (l1 : x1.length ≤ 4096) (l2 : x2.length ≤ 4096) (l3 : x3.length ≤ 4096) : OwR w' B vb vt vg v' bs gs (ls ++ [u1, u2, u3]) T U R (L ++ [x1, x2, x3]) := by
  have g1 := rowI_grown h1 hg (rowI_ty h.rl h1 (by decide))
  have g2 := rowI_grown h2 hg (rowI_ty h.rl h2 (by decide))
  have g3 := rowI_grown h3 hg (rowI_ty h.rl h3 (by decide))
  have f1 := (h.fl.gr h.rl hg (by decide)).snoc h.nl g1 a1
  have f2 := f1.snoc (by simp [h.nl]) g2 (fun v hv => by rcases List.mem_append.1 hv with h9 | h9; (exact a2 v h9); (rw [List.mem_singleton] at h9; subst h9; exact a12))
  have f3 := f2.snoc (by simp [h.nl]) g3 (fun v hv => by
    rcases List.mem_append.1 hv with h9 | h9
    · rcases List.mem_append.1 h9 with h8 | h8
      · exact a3 v h8
      · rw [List.mem_singleton] at h8; subst h8; exact a13
    · rw [List.mem_singleton] at h9; subst h9; exact a23)
  simp only [List.append_assoc, List.cons_append, List.nil_append] at f3
  exact ⟨rowI_grown h.rb hg (rowI_ty h.rl h.rb (by decide)), rowI_grown h.rt hg (rowI_ty h.rl h.rt (by decide)), rowI_grown h.rg hg (rowI_ty h.rl h.rg (by decide)), hown, h.fb.gr h.rl hg (by decide), h.fg.gr h.rl hg (by decide), f3, h.nb, h.ng, by simp [h.nl], h.bb, h.bg, fun y hy => by
    rcases List.mem_append.1 hy with h9 | h9
    · exact h.bl y h9
    · simp only [List.mem_cons, List.not_mem_nil, or_false] at h9
      rcases h9 with rfl | rfl | rfl
      · exact l1
      · exact l2
      · exact l3⟩
end
/-- append of values of one cell each: where the row lies -/
theorem wp_appV {w : World} {ops : Array Oper} {rest : List Oper} {o : Oper} {a : Act} {Q : Exit → Act → World → Prop} (hgd : o.guard = none) (s x : Operand) (t e : TypeId) (z : Value) (by_ : Nat)
    (ho : o.op = .call { callee := .builtin .append, args := #[s, x], argTypes := #[t, t] }) (ht : Tryz.prog.underlying t = some (.slice e)) (hinf : (Tryz.prog.info? e).map (fun i => (i.zero, i.size, i.bytes)) = some (some z, 1, by_)) (hz : z.cells.size = 1) (B : Nat) (v : Value) (n : Nat) (xs : List Value) (hn : n = xs.length)
    (hs : a.eval s = v) (hown : w.ownsRow B e 1 v xs.length xs) (g0 m c : Nat) (us : List Value) (hx : a.eval x = .slice (some ⟨g0, 0, none⟩) m c) (hm : us.length = m) (hu : w.heap[g0]? = some (.cells us.toArray e (0, 0))) (h1 : ∀ u ∈ us, u.oneCell' = true) (h0 : 0 < m) (hby : (n + m) * by_ ≤ 140737488355328) (h63 : n + m ≤ 140737488355328) (hbase : B ≤ w.heap.size)
    (h : ∀ g cap w', w'.ownsRow B e 1 (.slice (some ⟨g, 0, none⟩) (n + m) cap) (xs ++ us).length (xs ++ us) → w.grownBy w' v.ownBlock → (v.ownBlock = some g ∨ g = w.heap.size) → wpList Tryz.prog ops Q rest (a.put o.dst (.slice (some ⟨g, 0, none⟩) (n + m) cap)) w') : wpList Tryz.prog ops Q (o :: rest) a w := by
  subst hn
  obtain ⟨i, hi, hz0, hz1, hz2⟩ := info_parts hinf
  refine wpList_append_lies w hgd s x t ho B e i z 1 by_ ht hi hz0 hz1 hz2 hz (by decide) v xs.length xs hs hown ⟨g0, 0, none⟩ m c us hx (by omega) (World.news_of_block hu) h1 h0 (by simp only [maxLen]; omega) hby hbase w.heap.size rfl ?_
  intro g cap w' h2 h3 h4 _
  refine h g cap w' ?_ h3 h4
  rw [List.length_append, hm]
  exact h2
theorem info_st : (Tryz.prog.info? tSt).map (fun i => (i.zero, i.size, i.bytes)) = some (some (.string ⟨#[]⟩), 1, 16) := by kernel_rfl
/-- both inboxes and what they told -/
structure OwI (w0 w : World) (p q N : Nat) (I : Ib) (F G : Nat → Prop) (vb vt vg vl : Value) (bs gs ls : List Value) (T U : List (List UInt8)) (R : List (List Rg)) (L : List (List Ss)) : Prop where
  pl : Pl w0 w p q N I F G
  rw_ : OwR w w0.heap.size vb vt vg vl bs gs ls T U R L
  fr : ∀ b, footR2 vb vt vg vl bs gs ls b → ¬ (F b ∨ G b)
section
variable {w0 w w' : World} {p q N : Nat} {I : Ib} {F G : Nat → Prop} {vb vt vg vl : Value} {bs gs ls : List Value} {T U : List (List UInt8)} {R : List (List Rg)} {L : List (List Ss)}
theorem OwI.below (h : OwI w0 w p q N I F G vb vt vg vl bs gs ls T U R L) (hb : Below w.heap.size w w') : OwI w0 w' p q N I F G vb vt vg vl bs gs ls T U R L := ⟨h.pl.below hb, h.rw_.kept (fun b hf => hb.block b (h.rw_.lt hf).2), h.fr⟩
/-- a step of the inboxes -/
theorem OwI.step (h : OwI w0 w p q N I F G vb vt vg vl bs gs ls T U R L) {N' : Nat} {I' : Ib} {F' G' : Nat → Prop} (hp : Pl w0 w' p q N' I' F' G') (hc : Chg (fun b => F b ∨ G b) w w') (hf : ∀ b, F' b ∨ G' b → (F b ∨ G b) ∨ w.heap.size ≤ b) : OwI w0 w' p q N' I' F' G' vb vt vg vl bs gs ls T U R L :=
  ⟨hp, h.rw_.kept (fun b hb => hc.block b (h.rw_.lt hb).2 (h.fr b hb)), fun b hb h9 => by
    rcases hf b h9 with h8 | h8
    · exact h.fr b hb h8
    · have := (h.rw_.lt hb).2; omega⟩
end
/-- what both Takes of one unit leave -/
structure DuoAt (w0 w u : World) (p q N : Nat) (I' : Ib) (F G : Nat → Prop) (a : Ans) (ga ba : Option Addr) (gn gc bn bc : Nat) (ga2 ba2 : Option Addr) (gn2 gc2 bn2 bc2 : Nat) : Prop where
  ex : ∃ F' G' B B2 rs xs, Pl w0 u p q N I' F' G' ∧ Chg (fun b => F b ∨ G b) w u ∧ (∀ b, F' b ∨ G' b → (F b ∨ G b) ∨ w.heap.size ≤ b) ∧ AnsAt u B a ga ba gn gc bn bc rs xs ∧ AnsAt u B2 a ga2 ba2 gn2 gc2 bn2 bc2 rs xs ∧ w.heap.size ≤ B ∧ w.heap.size ≤ B2 ∧ ∀ b, obI (.slice ga gn gc) b ∨ obI (.slice ba bn bc) b → ¬ (F' b ∨ G' b)
section
variable {w0 w w' : World} {p q N : Nat} {I : Ib} {F G : Nat → Prop}
theorem Pl.duoA (h : Pl w0 w p q N I F G) (x : UnM) (hx : UnOk w0 x) (hN : N < 4611686018427387904) :
    Calls Tryz.prog 15 #[.pointer (some ⟨p, 0, none⟩), .agg x.c] w fun e w5 => ∃ ga ba gn gc bn bc, e = .returned (ansV (takeA I x.u) ga ba gn gc bn bc) ∧ Below w0.heap.size w0 w5 ∧ w.heap.size ≤ w5.heap.size ∧
      ∀ u5, Below w5.heap.size w5 u5 → Calls Tryz.prog 22 #[.pointer (some ⟨q, 0, none⟩), .agg x.c] u5 fun e w6 => ∃ ga2 ba2 gn2 gc2 bn2 bc2, e = .returned (ansV (takeA I x.u) ga2 ba2 gn2 gc2 bn2 bc2) ∧ (∀ b, u5.heap.size ≤ w6.heap.size ∧ (w5.heap.size ≤ b → b < u5.heap.size → w6.heap[b]? = u5.heap[b]?)) ∧
        ∀ u6, Below w6.heap.size w6 u6 → DuoAt w0 w u6 p q (N + 1) (takeI I x.u) F G (takeA I x.u) ga ba gn gc bn bc ga2 ba2 gn2 gc2 bn2 bc2 := by
  have hxw := hx.below h.bl
  refine Calls.mono (take_a h.a x.u x.da x.dn x.dc x.ga x.gn x.gc hx.hn hx.hg hxw.rd (hx.far h.oF) hx.dz hN) ?_
  rintro e w5 ⟨F', B1, ga, ba, gn, gc, bn, bc, rs, xs, rfl, hA, hI, hc, hf, hB⟩
  obtain ⟨vo, vs, E, hr, hfv⟩ := h.r
  have z0 := h.bl.size
  have zc := hc.size
  have hrt5 : ∀ b, footV q vo vs E b → b < w.heap.size := fun b hb => hr.lt hb
  have hb5 : Below w0.heap.size w0 w5 := h.of_chg hc h.oF
  refine ⟨ga, ba, gn, gc, bn, bc, rfl, hb5, zc, fun u5 hu5 => ?_⟩
  have zu := hu5.size
  have hr5 : Rv u5 q vo vs I E := (hr.kept hc.size (fun b hb => hc.block b (hr.lt hb) (fun h9 => h.ap b h9 (hfv b hb)))).below hu5
  have hx5 := hx.below (hb5.trans (hu5.mono (by omega)))
  have hfar : 0 < x.u.data.length → ∀ b, footV q vo vs E b → ∀ a, x.da = some a → a.block ≠ b := hx.far (fun b hb => (h.oG b (hfv b hb)).1)
  obtain ⟨ne, hne, -⟩ := hx.ee
  obtain ⟨nse, hns, -⟩ := hx.es
  refine Calls.mono (rtake_t hr5 x.u x.da x.dn x.dc x.ga x.gn x.gc hx.hn hx.hg hx5.rd hx.dz hfar (by omega) (by omega)) ?_
  rintro e w6 ⟨vo', vs', E', B2, ga2, ba2, gn2, gc2, bn2, bc2, rs2, xs2, rfl, hA2, hR, hc2, hf2, hB2⟩
  have zc2 := hc2.size
  refine ⟨ga2, ba2, gn2, gc2, bn2, bc2, rfl, fun b => ⟨zc2, fun h1 h2 => hc2.block b h2 (fun h9 => by have := hrt5 b h9; omega)⟩, fun u6 hu6 => ?_⟩
  have hcc : Chg (fun b => F b ∨ G b) w w6 := ((hc.mono (fun b hb => .inl hb)).trans (Chg.of_below (F := fun _ => False) hu5) (fun _ h9 => h9.elim)).trans hc2 (fun b hb => .inl (.inr (hfv b hb)))
  have hch : Chg (fun b => F b ∨ G b) w u6 := hcc.trans (Chg.of_below (F := fun _ => False) hu6) (fun _ h9 => h9.elim)
  have hA6 : AnsAt u6 B1 (takeA I x.u) ga ba gn gc bn bc rs xs := ((hA.chg (Chg.of_below (F := fun _ => False) hu5) (fun _ h9 => h9.elim)).chg hc2 (fun b hb => by have := hrt5 b hb; omega)).chg (Chg.of_below (F := fun _ => False) hu6) (fun _ h9 => h9.elim)
  have hI6 : IbA u6 p (N + 1) (takeI I x.u) F' := ((hI.below hu5).chg hc2 (fun b hb h9 => by
    rcases (hf b hb).1 with h8 | h8
    · exact h.ap b h8 (hfv b h9)
    · have := hrt5 b h9; omega)).below hu6
  have hA62 : AnsAt u6 B2 (takeA I x.u) ga2 ba2 gn2 gc2 bn2 bc2 rs2 xs2 := hA2.chg (Chg.of_below (F := fun _ => False) hu6) (fun _ h9 => h9.elim)
  obtain ⟨e1, e2⟩ := AnsR.uniq hA6.is_ hA62.is_
  subst e1 e2
  have hown5 : ∀ b, obI (.slice ga gn gc) b ∨ obI (.slice ba bn bc) b → B1 ≤ b ∧ b < w5.heap.size := fun b hb => hb.elim (fun h9 => World.ownsRow.lt hA.gr b h9) (fun h9 => World.ownsRow.lt hA.bl b h9)
  refine ⟨F', footV q vo' vs' E', B1, B2, rs, xs, ⟨hI6, ⟨vo', vs', E', hR.below hu6, fun b hb => hb⟩, fun b hb h9 => ?_, fun b hb => ?_, fun b hb => ⟨?_, (hR.below hu6).lt hb⟩, ?_⟩, hch, fun b hb => ?_, hA6, hA62, hB, by omega, fun b hb h9 => ?_⟩
  · have hlt := hI.lt b hb
    rcases (hf2 b h9).1 with h8 | h8
    · rcases (hf b hb).1 with h7 | h7
      · exact h.ap b h7 (hfv b h8)
      · have := hrt5 b h8; omega
    · omega
  · rcases (hf b hb).1 with h7 | h7
    · exact h.oF b h7
    · omega
  · rcases (hf2 b hb).1 with h7 | h7
    · exact (h.oG b (hfv b h7)).1
    · omega
  · exact h.of_chg hch (fun b hb => hb.elim (h.oF b) (fun h9 => (h.oG b h9).1))
  · rcases hb with hb | hb
    · exact (hf b hb).1.imp .inl id
    · rcases (hf2 b hb).1 with h7 | h7
      · exact .inl (.inr (hfv b h7))
      · exact .inr (by omega)
  · have h7 := hown5 b hb
    rcases h9 with h9 | h9
    · have := (hf b h9).2; omega
    · rcases (hf2 b h9).1 with h8 | h8
      · have := hrt5 b h8; omega
      · omega
end
end Go.Proofs.YtdoikcolkbjnfaaGreat
namespace Go.Proofs.YtdoikcolkbjnfaaGreat
set_option linter.unusedVariables false
set_option linter.unusedSimpArgs false
open Go.RowKit Go.Maps
section
variable {w0 w w' : World} {p q N : Nat} {I : Ib} {F G : Nat → Prop} {vb vt vg vl : Value} {bs gs ls : List Value} {T U : List (List UInt8)} {R : List (List Rg)} {L : List (List Ss)}
theorem OwI.plg (h : OwI w0 w p q N I F G vb vt vg vl bs gs ls T U R L) {r : Option Nat} (hg : w.grownBy w' r) (hr : ∀ b, r = some b → footR2 vb vt vg vl bs gs ls b) : Pl w0 w' p q N I F G :=
  h.pl.chg (D := fun b => r = some b) (Chg.of_grown hg (fun b e => e)) (fun b e => .inr ⟨(h.rw_.lt (hr b e)).1, h.fr b (hr b e)⟩)
theorem OwR.notB (h : OwR w w0.heap.size vb vt vg vl bs gs ls T U R L) {u : Value} {x : List UInt8} (hu : OwnG KBy w w0.heap.size u x) (ha : ∀ v ∈ bs, apI v u) {b : Nat} (hb : obI u b) : ¬ footR2 vb vt vg vl bs gs ls b := by
  rintro (h9 | h9 | h9 | h9 | ⟨v, hv, h9⟩ | ⟨v, hv, h9⟩ | ⟨v, hv, h9⟩)
  · exact rowI_ty h.rb hu (by decide) b h9 hb
  · exact rowI_ty h.rt hu (by decide) b h9 hb
  · exact rowI_ty h.rg hu (by decide) b h9 hb
  · exact rowI_ty h.rl hu (by decide) b h9 hb
  · exact ha v hv b h9 hb
  · obtain ⟨i, hi⟩ := List.mem_iff_getElem?.1 hv
    exact rowI_ty (h.fg.own i v hi) hu (by decide) b h9 hb
  · obtain ⟨i, hi⟩ := List.mem_iff_getElem?.1 hv
    exact rowI_ty (h.fl.own i v hi) hu (by decide) b h9 hb
theorem OwR.notR (h : OwR w w0.heap.size vb vt vg vl bs gs ls T U R L) {u : Value} {x : List Rg} (hu : OwnG KRg w w0.heap.size u x) (ha : ∀ v ∈ gs, apI v u) {b : Nat} (hb : obI u b) : ¬ footR2 vb vt vg vl bs gs ls b := by
  rintro (h9 | h9 | h9 | h9 | ⟨v, hv, h9⟩ | ⟨v, hv, h9⟩ | ⟨v, hv, h9⟩)
  · exact rowI_ty h.rb hu (by decide) b h9 hb
  · exact rowI_ty h.rt hu (by decide) b h9 hb
  · exact rowI_ty h.rg hu (by decide) b h9 hb
  · exact rowI_ty h.rl hu (by decide) b h9 hb
  · obtain ⟨i, hi⟩ := List.mem_iff_getElem?.1 hv
    exact rowI_ty (h.fb.own i v hi) hu (by decide) b h9 hb
  · exact ha v hv b h9 hb
  · obtain ⟨i, hi⟩ := List.mem_iff_getElem?.1 hv
    exact rowI_ty (h.fl.own i v hi) hu (by decide) b h9 hb
theorem OwI.pushB (h : OwI w0 w p q N I F G vb vt vg vl bs gs ls T U R L) {u : Value} {x : List UInt8} {g n c : Nat} (hown : w'.ownsRow w0.heap.size tB8 1 (.slice (some ⟨g, 0, none⟩) n c) (bs ++ [u]).length (bs ++ [u])) (hg : w.grownBy w' vb.ownBlock) (hat : vb.ownBlock = some g ∨ g = w.heap.size) (hu : OwnG KBy w w0.heap.size u x) (huf : ∀ b, obI u b → ¬ footR2 vb vt vg vl bs gs ls b ∧ ¬ (F b ∨ G b)) (hx : x.length ≤ 1048576) : OwI w0 w' p q N I F G (.slice (some ⟨g, 0, none⟩) n c) vt vg vl (bs ++ [u]) gs ls (T ++ [x]) U R L := by
  refine ⟨h.plg hg (fun b e => .inl e), h.rw_.pushB hown hg hu (fun v hv b h1 h2 => (huf b h2).1 (.inr (.inr (.inr (.inr (.inl ⟨v, hv, h1⟩)))))) hx, fun b hb h9 => ?_⟩
  have hlt := h.pl.lt h9
  rcases hb with hb | hb | hb | hb | ⟨v, hv, hb⟩ | hb | hb
  · have e : g = b := Option.some.inj hb
    subst e
    rcases hat with h8 | h8
    · exact h.fr g (.inl h8) h9
    · omega
  · exact h.fr b (.inr (.inl hb)) h9
  · exact h.fr b (.inr (.inr (.inl hb))) h9
  · exact h.fr b (.inr (.inr (.inr (.inl hb)))) h9
  · rcases List.mem_append.1 hv with h8 | h8
    · exact h.fr b (.inr (.inr (.inr (.inr (.inl ⟨v, h8, hb⟩))))) h9
    · rw [List.mem_singleton] at h8; subst h8; exact (huf b hb).2 h9
  · exact h.fr b (.inr (.inr (.inr (.inr (.inr (.inl hb)))))) h9
  · exact h.fr b (.inr (.inr (.inr (.inr (.inr (.inr hb)))))) h9
theorem OwI.pushT (h : OwI w0 w p q N I F G vb vt vg vl bs gs ls T U R L) {x : List UInt8} {g n c : Nat} (hown : w'.ownsRow w0.heap.size tSt 1 (.slice (some ⟨g, 0, none⟩) n c) (U.map strV ++ [strV x]).length (U.map strV ++ [strV x])) (hg : w.grownBy w' vt.ownBlock) (hat : vt.ownBlock = some g ∨ g = w.heap.size) : OwI w0 w' p q N I F G vb (.slice (some ⟨g, 0, none⟩) n c) vg vl bs gs ls T (U ++ [x]) R L := by
  refine ⟨h.plg hg (fun b e => .inr (.inl e)), h.rw_.pushT hown hg, fun b hb h9 => ?_⟩
  have hlt := h.pl.lt h9
  rcases hb with hb | hb | hb
  · exact h.fr b (.inl hb) h9
  · have e : g = b := Option.some.inj hb
    subst e
    rcases hat with h8 | h8
    · exact h.fr g (.inr (.inl h8)) h9
    · omega
  · exact h.fr b (.inr (.inr hb)) h9
theorem OwI.pushG (h : OwI w0 w p q N I F G vb vt vg vl bs gs ls T U R L) {u : Value} {x : List Rg} {g n c : Nat} (hown : w'.ownsRow w0.heap.size tRL 1 (.slice (some ⟨g, 0, none⟩) n c) (gs ++ [u]).length (gs ++ [u])) (hg : w.grownBy w' vg.ownBlock) (hat : vg.ownBlock = some g ∨ g = w.heap.size) (hu : OwnG KRg w w0.heap.size u x) (huf : ∀ b, obI u b → ¬ footR2 vb vt vg vl bs gs ls b ∧ ¬ (F b ∨ G b)) (hx : x.length ≤ 64) : OwI w0 w' p q N I F G vb vt (.slice (some ⟨g, 0, none⟩) n c) vl bs (gs ++ [u]) ls T U (R ++ [x]) L := by
  refine ⟨h.plg hg (fun b e => .inr (.inr (.inl e))), h.rw_.pushG hown hg hu (fun v hv b h1 h2 => (huf b h2).1 (.inr (.inr (.inr (.inr (.inr (.inl ⟨v, hv, h1⟩))))))) hx, fun b hb h9 => ?_⟩
  have hlt := h.pl.lt h9
  rcases hb with hb | hb | hb | hb | hb | ⟨v, hv, hb⟩ | hb
  · exact h.fr b (.inl hb) h9
  · exact h.fr b (.inr (.inl hb)) h9
  · have e : g = b := Option.some.inj hb
    subst e
    rcases hat with h8 | h8
    · exact h.fr g (.inr (.inr (.inl h8))) h9
    · omega
  · exact h.fr b (.inr (.inr (.inr (.inl hb)))) h9
  · exact h.fr b (.inr (.inr (.inr (.inr (.inl hb))))) h9
  · rcases List.mem_append.1 hv with h8 | h8
    · exact h.fr b (.inr (.inr (.inr (.inr (.inr (.inl ⟨v, h8, hb⟩)))))) h9
    · rw [List.mem_singleton] at h8; subst h8; exact (huf b hb).2 h9
  · exact h.fr b (.inr (.inr (.inr (.inr (.inr (.inr hb)))))) h9
theorem OwI.pushL (h : OwI w0 w p q N I F G vb vt vg vl bs gs ls T U R L) {u1 u2 u3 : Value} {x1 x2 x3 : List Ss} {g n c : Nat} (hown : w'.ownsRow w0.heap.size tSL 1 (.slice (some ⟨g, 0, none⟩) n c) (ls ++ [u1, u2, u3]).length (ls ++ [u1, u2, u3])) (hg : w.grownBy w' vl.ownBlock) (hat : vl.ownBlock = some g ∨ g = w.heap.size) (h1 : OwnG KSs w w0.heap.size u1 x1) (h2 : OwnG KSs w w0.heap.size u2 x2) (h3 : OwnG KSs w w0.heap.size u3 x3) (huf : ∀ b, obI u1 b ∨ obI u2 b ∨ obI u3 b → ¬ footR2 vb vt vg vl bs gs ls b ∧ ¬ (F b ∨ G b)) (a12 : apI u1 u2) (a13 : apI u1 u3) (a23 : apI u2 u3) (l1 : x1.length ≤ 4096) (l2 : x2.length ≤ 4096) (l3 : x3.length ≤ 4096) : OwI w0 w' p q N I F G vb vt vg (.slice (some ⟨g, 0, none⟩) n c) bs gs (ls ++ [u1, u2, u3]) T U R (L ++ [x1, x2, x3]) := by
  have fo : ∀ v ∈ ls, ∀ b, obI v b → footR2 vb vt vg vl bs gs ls b := fun v hv b hb => .inr (.inr (.inr (.inr (.inr (.inr ⟨v, hv, hb⟩)))))
  refine ⟨h.plg hg (fun b e => .inr (.inr (.inr (.inl e)))), h.rw_.pushL hown hg h1 h2 h3 (fun v hv b e1 e2 => (huf b (.inl e2)).1 (fo v hv b e1)) (fun v hv b e1 e2 => (huf b (.inr (.inl e2))).1 (fo v hv b e1)) (fun v hv b e1 e2 => (huf b (.inr (.inr e2))).1 (fo v hv b e1)) a12 a13 a23 l1 l2 l3, fun b hb h9 => ?_⟩
  have hlt := h.pl.lt h9
  rcases hb with hb | hb | hb | hb | hb | hb | ⟨v, hv, hb⟩
  · exact h.fr b (.inl hb) h9
  · exact h.fr b (.inr (.inl hb)) h9
  · exact h.fr b (.inr (.inr (.inl hb))) h9
  · have e : g = b := Option.some.inj hb
    subst e
    rcases hat with h8 | h8
    · exact h.fr g (.inr (.inr (.inr (.inl h8)))) h9
    · omega
  · exact h.fr b (.inr (.inr (.inr (.inr (.inl hb))))) h9
  · exact h.fr b (.inr (.inr (.inr (.inr (.inr (.inl hb)))))) h9
  · rcases List.mem_append.1 hv with h8 | h8
    · exact h.fr b (fo v h8 b hb) h9
    · simp only [List.mem_cons, List.not_mem_nil, or_false] at h8
      rcases h8 with rfl | rfl | rfl
      · exact (huf b (.inl hb)).2 h9
      · exact (huf b (.inr (.inl hb))).2 h9
      · exact (huf b (.inr (.inr hb))).2 h9
end
/-- a state of the loops: counted -/
structure OwX (w0 w : World) (p q N n1 n3 : Nat) (vb vt vg vl : Value) : Prop where
  ex : ∃ I F G bs gs ls T R L, OwI w0 w p q N I F G vb vt vg vl bs gs ls T T R L ∧ bs.length ≤ n1 ∧ gs.length ≤ n1 ∧ ls.length ≤ n3
/-- what is left behind the blocks were marked -/
structure OwZ (w0 w : World) (p q N : Nat) (I : Ib) (F G : Nat → Prop) (vg vl : Value) (gs ls : List Value) (R : List (List Rg)) (L : List (List Ss)) : Prop where
  pl : Pl w0 w p q N I F G
  rg : w.ownsRow w0.heap.size tRL 1 vg gs.length gs
  rl : w.ownsRow w0.heap.size tSL 1 vl ls.length ls
  fg : RowsAt KRg w w0.heap.size gs (fun j => R[j]?.getD [])
  fl : RowsAt KSs w w0.heap.size ls (fun j => L[j]?.getD [])
  fr : ∀ b, (∃ v ∈ gs, obI v b) ∨ (∃ v ∈ ls, obI v b) → ¬ (F b ∨ G b)
theorem getD_len {α : Type} {X : List (List α)} {m : Nat} (h : ∀ x ∈ X, x.length ≤ m) (j : Nat) : (X[j]?.getD []).length ≤ m := by
  cases hx : X[j]? with
  | none => exact Nat.zero_le _
  | some x => exact h x (List.mem_of_getElem? hx)
theorem ChI.chg {F : Nat → Prop} {w w' : World} (h : ChI F w w') : Chg F w w' := ⟨h.os, h.tape, h.output, h.size, h.block⟩
section
variable {w0 w w' : World} {p q N : Nat} {I : Ib} {F G : Nat → Prop} {vb vt vg vl : Value} {bs gs ls : List Value} {T U : List (List UInt8)} {R : List (List Rg)} {L : List (List Ss)}
theorem RowsAt.two {α β : Type} {K : Kd α} {K' : Kd β} {B : Nat} {vs us : List Value} {C : Nat → List α} {D : Nat → List β} (h : RowsAt K w B vs C) (k : RowsAt K' w B us D) (hne : K.t ≠ K'.t) {v u : Value} (hv : v ∈ vs) (hu : u ∈ us) : apI v u := by
  obtain ⟨i, hi⟩ := List.mem_iff_getElem?.1 hv
  obtain ⟨j, hj⟩ := List.mem_iff_getElem?.1 hu
  exact rowI_ty (h.own i v hi) (k.own j u hj) hne
theorem RowsAt.row {α : Type} {K : Kd α} {B : Nat} {vs : List Value} {C : Nat → List α} {t : TypeId} {sz n : Nat} {x : Value} {cs : List Value} (h : RowsAt K w B vs C) (k : w.ownsRow B t sz x n cs) (hne : K.t ≠ t) {v : Value} (hv : v ∈ vs) : apI v x := by
  obtain ⟨i, hi⟩ := List.mem_iff_getElem?.1 hv
  exact rowI_ty (h.own i v hi) k hne
theorem OwI.afterB (h : OwI w0 w p q N I F G vb vt vg vl bs gs ls T U R L) (hc : ChI (fun b => ∃ v ∈ bs, v.ownBlock = some b) w w') : OwZ w0 w' p q N I F G vg vl gs ls R L := by
  have hk : ∀ (x : Value), (∀ b, obI x b → b < w.heap.size) → (∀ v ∈ bs, apI v x) → ∀ b, obI x b → w'.heap[b]? = w.heap[b]? := fun x hl ha b hb => hc.block b (hl b hb) (fun ⟨v, hv, e⟩ => ha v hv b e hb)
  have fo : ∀ b, (∃ v ∈ bs, v.ownBlock = some b) → footR2 vb vt vg vl bs gs ls b := fun b hb => .inr (.inr (.inr (.inr (.inl hb))))
  exact ⟨h.pl.chg hc.chg (fun b hb => .inr ⟨(h.rw_.lt (fo b hb)).1, h.fr b (fo b hb)⟩), rowI_kept h.rw_.rg (hk vg (fun b hb => (World.ownsRow.lt h.rw_.rg b hb).2) (fun v hv => h.rw_.fb.row h.rw_.rg (by decide) hv)), rowI_kept h.rw_.rl (hk vl (fun b hb => (World.ownsRow.lt h.rw_.rl b hb).2) (fun v hv => h.rw_.fb.row h.rw_.rl (by decide) hv)), h.rw_.fg.kept2 (fun u hu => hk u (fun b hb => (h.rw_.fg.lt2 hu hb).2) (fun v hv => h.rw_.fb.two h.rw_.fg (by decide) hv hu)), h.rw_.fl.kept2 (fun u hu => hk u (fun b hb => (h.rw_.fl.lt2 hu hb).2) (fun v hv => h.rw_.fb.two h.rw_.fl (by decide) hv hu)), fun b hb => h.fr b (hb.elim (fun h9 => .inr (.inr (.inr (.inr (.inr (.inl h9)))))) (fun h9 => .inr (.inr (.inr (.inr (.inr (.inr h9)))))))⟩
theorem OwZ.afterG (h : OwZ w0 w p q N I F G vg vl gs ls R L) (hc : ChI (fun b => ∃ v ∈ gs, v.ownBlock = some b) w w') : Pl w0 w' p q N I F G ∧ w'.ownsRow w0.heap.size tSL 1 vl ls.length ls ∧ RowsAt KSs w' w0.heap.size ls (fun j => L[j]?.getD []) := by
  have hk : ∀ (x : Value), (∀ b, obI x b → b < w.heap.size) → (∀ v ∈ gs, apI v x) → ∀ b, obI x b → w'.heap[b]? = w.heap[b]? := fun x hl ha b hb => hc.block b (hl b hb) (fun ⟨v, hv, e⟩ => ha v hv b e hb)
  exact ⟨h.pl.chg hc.chg (fun b ⟨v, hv, e⟩ => .inr ⟨(h.fg.lt2 hv e).1, h.fr b (.inl ⟨v, hv, e⟩)⟩), rowI_kept h.rl (hk vl (fun b hb => (World.ownsRow.lt h.rl b hb).2) (fun v hv => h.fg.row h.rl (by decide) hv)), h.fl.kept2 (fun u hu => hk u (fun b hb => (h.fl.lt2 hu hb).2) (fun v hv => h.fg.two h.fl (by decide) hv hu))⟩
theorem Pl.afterL (h : Pl w0 w p q N I F G) (hl : RowsAt KSs w w0.heap.size ls (fun j => L[j]?.getD [])) (hf : ∀ b, (∃ v ∈ ls, obI v b) → ¬ (F b ∨ G b)) (hc : ChI (fun b => ∃ v ∈ ls, v.ownBlock = some b) w w') : Pl w0 w' p q N I F G := h.chg hc.chg (fun b ⟨v, hv, e⟩ => .inr ⟨(hl.lt2 hv e).1, hf b ⟨v, hv, e⟩⟩)
end
end Go.Proofs.YtdoikcolkbjnfaaGreat
namespace Go.Proofs.YtdoikcolkbjnfaaGreat
set_option linter.unusedVariables false
set_option linter.unusedSimpArgs false
open Go.RowKit Go.Maps
section
set_option maxRecDepth 20000
set_option maxHeartbeats 12800000
theorem inboxOwn_walk (a b : Int) (sa : Option Addr) (sc : Nat) (xs : List OpX) (w : World) (ha : -9223372036854775808 ≤ a ∧ a ≤ 9223372036854775807) (hb : -9223372036854775808 ≤ b ∧ b ≤ 9223372036854775807) (hx : RdX w sa xs) (hlc : xs.length ≤ sc) (hnil : sa = none → sc = 0) (hn : xs.length ≤ 1034834473170) : Calls Tryz.prog 8 #[.int .i64 a, .int .i64 b, .slice sa xs.length sc] w fun e w' => e = .returned (.bool true) ∧ Below w.heap.size w w' := by
  have HK : Hid (∀ u : World, Calls _ _ _ u _) := fun u => knows_t u
  have HWA : Hid (Calls Tryz.prog 13 #[.int .i64 a, .int .i64 64] w _) := winI_t a 64 (by decide) (by decide) w ha.1 ha.2
  have HWB : Hid (Calls Tryz.prog 13 #[.int .i64 b, .int .i64 4096] w _) := winI_t b 4096 (by decide) (by decide) w hb.1 hb.2
  have hlA := winN_lt a 64 (by decide)
  have hlB := winN_lt b 4096 (by decide)
  obtain ⟨ka, hka⟩ : ∃ ka, ka = winN a 64 := ⟨_, rfl⟩
  obtain ⟨kb, hkb⟩ : ∃ kb, kb = winN b 4096 := ⟨_, rfl⟩
  rw [← hka] at HWA hlA
  rw [← hkb] at HWB hlB
  have HBO : Hid (Calls _ _ _ w _) := both_p (1 + (ka : Int)) (1 + (kb : Int)) (by unfold valN; omega) w
  have HX : Hid _ := hx
  obtain ⟨M, hM⟩ : ∃ M, M = xs.length := ⟨_, rfl⟩
  rw [← hM]
  have HML : Hid _ := hM
  have hMb : M ≤ 1034834473170 := by omega
  clear hx hn hM hka hkb ha hb hlc hnil
  go_enter Tryz.func8, Tryz.ntmps8
  go_wp2_with (first | (go_at_call 13; first | (with_reducible refine Calls.mono HWA.out ?_; rintro e w' ⟨rfl, hq⟩; have hq := hq.symm; subst hq) | (with_reducible refine Calls.mono HWB.out ?_; rintro e w' ⟨rfl, hq⟩; have hq := hq.symm; subst hq)))
  refine Calls.mono HBO.out ?_
  rintro e w1 ⟨p, q, I0, F0, G0, rfl, hp1⟩
  have HP1 : Hid _ := hp1
  clear hp1
  go_wp2_with fail
  refine Calls.mono (HK.out _) ?_
  rintro e w2 ⟨rfl, hb2⟩
  have HP2 : Hid (Pl w w2 p q 0 I0 F0 G0) := HP1.out.below hb2
  clear hb2 hlA hlB
  go_wp2_with fail
  go_loopw [10, 11, 12, 13, 14] (fun vb vt vg vl j wr => ∃ (k N : Nat), k ≤ M ∧ j = .int .i64 (k : Int) ∧ N ≤ 2 * k ∧ OwX w wr p q N (2 * k) (3 * k) vb vt vg vl) (fun _ _ _ _ j _ => M - (intOf j).toNat)
  case atStart => exact ⟨0, 0, Nat.zero_le _, rfl, Nat.zero_le _, ⟨I0, F0, G0, [], [], [], [], [], [], ⟨HP2.out, OwR.nil _ _, (fun b hb => by rcases hb with hb | hb | hb | hb | ⟨v, hv, -⟩ | ⟨v, hv, -⟩ | ⟨v, hv, -⟩ <;> first | cases hb | cases hv)⟩, Nat.zero_le _, Nat.zero_le _, Nat.zero_le _⟩⟩
  case round =>
    obtain ⟨k, N, hk, rfl, hN, hX⟩ := hrel
    have hkw : IntKind.i64.wrap ((k : Int) + 1) = ((k + 1 : Nat) : Int) := by rw [IntKind.wrap_i64]; omega
    obtain ⟨I, F, G, bs, gs, ls, T, R, L, hO, hnb, hng, hnl⟩ := hX.ex
    obtain ⟨a1, c1, e1, -⟩ := rowI_val hO.rw_.rb
    obtain ⟨a2, c2, e2, -⟩ := rowI_val hO.rw_.rt
    obtain ⟨a3, c3, e3, -⟩ := rowI_val hO.rw_.rg
    obtain ⟨a4, c4, e4, -⟩ := rowI_val hO.rw_.rl
    obtain ⟨n1, hn1⟩ : ∃ n1, n1 = bs.length := ⟨_, rfl⟩
    obtain ⟨n2, hn2⟩ : ∃ n2, n2 = T.length := ⟨_, rfl⟩
    obtain ⟨n3, hn3⟩ : ∃ n3, n3 = gs.length := ⟨_, rfl⟩
    obtain ⟨n4, hn4⟩ : ∃ n4, n4 = ls.length := ⟨_, rfl⟩
    rw [← hn1] at e1
    rw [← hn2] at e2
    rw [← hn3] at e3
    rw [← hn4] at e4
    subst e1 e2 e3 e4
    have HN1 : Hid (n1 = bs.length) := hn1
    have HN2 : Hid (n2 = T.length) := hn2
    have HN3 : Hid (n3 = gs.length) := hn3
    have HN4 : Hid (n4 = ls.length) := hn4
    have hn4b : n4 ≤ 3 * k := by omega
    have hn1b : n1 ≤ 2 * k := by omega
    have hn3b : n3 ≤ 2 * k := by omega
    by_cases hlt : k < M
    · have hlti : (k : Int) < (M : Int) := by omega
      have hk0 : (0 : Int) ≤ (k : Int) := by omega
      have hk1 : k < xs.length := by rw [← HML.out]; exact hlt
      obtain ⟨sb, so, rfl, hrng, hop⟩ := HX.out k hk1
      obtain ⟨y, hy⟩ : ∃ y, y = xs[k] := ⟨_, rfl⟩
      rw [← hy] at hrng hop
      have hld := opRange (rangeAt_below hrng hO.pl.bl)
      have HRN : Hid _ := hrng
      have HUN : Hid (UnOk w y.x) := hop.un
      by_cases hkd : y.kd = 1
      · have hkq : (y.kd == 1) = true := by simp [hkd]
        have HOX : Hid _ := hX
        clear hX hO hrng hop hk1 hy hkd hn1 hn2 hn3 hn4 hnb hng hnl
        go_wp2_with fail
        go_loopw [10, 11, 12, 15] (fun vb vt vg j wr2 => ∃ (k2 N2 : Nat), k2 ≤ 2 ∧ j = .int .i64 (k2 : Int) ∧ N2 ≤ 2 * k + k2 ∧ OwX w wr2 p q N2 (2 * k + k2) (3 * k) vb vt vg (.slice a4 n4 c4)) (fun _ _ _ j _ => 2 - (intOf j).toNat)
        case atStart => exact ⟨0, N, Nat.zero_le _, rfl, by omega, HOX.out⟩
        case round =>
          clear hld HN4 hn4b
          obtain ⟨k2, N2, hk2, rfl, hN2, hX2⟩ := hrel
          rename World => wq
          have hk2w : IntKind.i64.wrap ((k2 : Int) + 1) = ((k2 + 1 : Nat) : Int) := by rw [IntKind.wrap_i64]; omega
          obtain ⟨I2, F2, G2, bs2, gs2, ls2, T2, R2, L2, hO2, hnb2, hng2, hnl2⟩ := hX2.ex
          obtain ⟨b1, d1, e1, -⟩ := rowI_val hO2.rw_.rb
          obtain ⟨b2, d2, e2, -⟩ := rowI_val hO2.rw_.rt
          obtain ⟨b3, d3, e3, -⟩ := rowI_val hO2.rw_.rg
          obtain ⟨b4, d4, e4, -⟩ := rowI_val hO2.rw_.rl
          simp only [Value.slice.injEq] at e4
          obtain ⟨m1, hm1⟩ : ∃ m1, m1 = bs2.length := ⟨_, rfl⟩
          obtain ⟨m2, hm2⟩ : ∃ m2, m2 = T2.length := ⟨_, rfl⟩
          obtain ⟨m3, hm3⟩ : ∃ m3, m3 = gs2.length := ⟨_, rfl⟩
          rw [← hm1] at e1
          rw [← hm2] at e2
          rw [← hm3] at e3
          subst e1 e2 e3
          have hm12 : m2 = m1 := by rw [hm1, hm2]; exact hO2.rw_.nb
          have hb2 : m2 ≤ 2 * k + k2 := by omega
          clear hm12
          have HO2 : Hid _ := hO2
          have HM1 : Hid (m1 = bs2.length) := hm1
          have HM2 : Hid (m2 = T2.length) := hm2
          have HM3 : Hid (m3 = gs2.length) := hm3
          have hb1 : m1 ≤ 2 * k + k2 := by omega
          have hb3 : m3 ≤ 2 * k + k2 := by omega
          have HL2 : Hid (n4 = ls2.length ∧ ls2.length ≤ 3 * k) := ⟨e4.2.1, hnl2⟩
          clear e4
          by_cases hl2 : k2 < 2
          · have hl2i : (k2 : Int) < 2 := by omega
            have hldq := opRange (rangeAt_below HRN.out hO2.pl.bl)
            have hdu := hO2.pl.duoA y.x HUN.out (by omega)
            obtain ⟨aa, haa⟩ : ∃ aa, aa = takeA I2 y.x.u := ⟨_, rfl⟩
            obtain ⟨I3, hI3⟩ : ∃ I3, I3 = takeI I2 y.x.u := ⟨_, rfl⟩
            rw [← haa, ← hI3] at hdu
            have HDU : Hid (Calls _ _ _ wq _) := hdu
            clear hX2 hO2 hdu haa hI3 hm1 hm2 hm3 hnb2 hng2 hnl2
            go_wp2_with fail
            refine Calls.mono HDU.out ?_
            rintro e5 w5 ⟨ga, ba, gn, gc, bn, bc, rfl, hb05, hqs, hd5⟩
            unfold ansV
            obtain ⟨ast, hast⟩ : ∃ ast, ast = aa.st := ⟨_, rfl⟩
            obtain ⟨acd, hacd⟩ : ∃ acd, acd = aa.cd := ⟨_, rfl⟩
            rw [← hast, ← hacd]
            obtain ⟨u5, hu5⟩ : ∃ u5, u5 = w5.alloc (.cells #[.int .i64 ast, .int .i64 acd, .slice ga gn gc, .slice ba bn bc] 44) := ⟨_, rfl⟩
            have hbu5 : Below w5.heap.size w5 u5 := by rw [hu5]; exact al (Below.refl _ _) _
            have hP5 : u5.heap[w5.heap.size]? = some (.cells #[.int .i64 ast, .int .i64 acd, .slice ga gn gc, .slice ba bn bc] 44 (0, 0)) := by rw [hu5]; exact heap_alloc_new _ _
            have hld5 := opRange (rangeAt_below HRN.out (hb05.trans (hbu5.mono hb05.size)))
            have HD5 : Hid (Calls _ _ _ u5 _) := hd5 u5 hbu5
            have HP5 : Hid _ := hP5
            have HU5 : Hid (u5 = _) := hu5
            have HAS : Hid (ast = aa.st ∧ acd = aa.cd) := ⟨hast, hacd⟩
            have HQS : Hid (wq.heap.size ≤ w5.heap.size) := hqs
            obtain ⟨P5, hP5n⟩ : ∃ P5, P5 = w5.heap.size := ⟨_, rfl⟩
            have HP5N : Hid (P5 = w5.heap.size) := hP5n
            rw [← hP5n] at HP5
            clear hldq hb05 hd5 hast hacd hu5 hbu5 hP5 hqs hP5n
            go_upto_region 16 with fail
            rw [← HU5.out, ← HP5N.out]
            go_wp2_with fail
            refine Calls.mono HD5.out ?_
            rintro e6 w6 ⟨ga2, ba2, gn2, gc2, bn2, bc2, rfl, hk6, hd6⟩
            unfold ansV
            rw [← HAS.out.1, ← HAS.out.2]
            obtain ⟨u6, hu6⟩ : ∃ u6, u6 = w6.alloc (.cells #[.int .i64 ast, .int .i64 acd, .slice ga2 gn2 gc2, .slice ba2 bn2 bc2] tRa) := ⟨_, rfl⟩
            have hbu6 : Below w6.heap.size w6 u6 := by rw [hu6]; exact al (Below.refl _ _) _
            obtain ⟨P6, hP6n⟩ : ∃ P6, P6 = w6.heap.size := ⟨_, rfl⟩
            have hP6 : u6.heap[P6]? = some (.cells #[.int .i64 ast, .int .i64 acd, .slice ga2 gn2 gc2, .slice ba2 bn2 bc2] tRa (0, 0)) := by rw [hu6, hP6n]; exact heap_alloc_new _ _
            have hl5 := (Array.getElem?_eq_some_iff.1 HP5.out).1
            have hP56 : u6.heap[P5]? = some (.cells #[.int .i64 ast, .int .i64 acd, .slice ga gn gc, .slice ba bn bc] 44 (0, 0)) := (hbu6.block _ (Nat.lt_of_lt_of_le hl5 (hk6 0).1)).trans (((hk6 _).2 (by rw [HP5N.out]; exact Nat.le_refl _) hl5).trans HP5.out)
            obtain ⟨F3, G3, B1, B2, rs, bx, hp6, hc6, hf6, hA6, hA62, hB1, hB2, hfree⟩ := (hd6 u6 hbu6).ex
            have hal : Calls Tryz.prog 23 #[.agg #[.int .i64 ast, .int .i64 acd, .slice ga gn gc, .slice ba bn bc], .agg #[.int .i64 ast, .int .i64 acd, .slice ga2 gn2 gc2, .slice ba2 bn2 bc2]] u6 fun e w' => e = .returned (.bool true) ∧ Below u6.heap.size u6 w' := by rw [HAS.out.1, HAS.out.2]; exact alike_t hA6 hA62
            have HAL : Hid _ := hal
            have HO6 : Hid (OwI w u6 p q (N2 + 1) I3 F3 G3 (.slice b1 m1 d1) (.slice b2 m2 d2) (.slice b3 m3 d3) (.slice a4 n4 c4) bs2 gs2 ls2 T2 T2 R2 L2) := HO2.out.step hp6 hc6 hf6
            have HA6 : Hid _ := hA6
            have HA62 : Hid _ := hA62
            have HP6 : Hid _ := hP6
            have HP56 : Hid _ := hP56
            have HFR : Hid (∀ b, obI (.slice ga gn gc) b ∨ obI (.slice ba bn bc) b → ¬ (F3 b ∨ G3 b)) := hfree
            have HBB : Hid (wq.heap.size ≤ B1 ∧ wq.heap.size ≤ B2 ∧ wq.heap.size ≤ P5 ∧ wq.heap.size ≤ P6 ∧ w.heap.size ≤ wq.heap.size) := ⟨hB1, hB2, by rw [HP5N.out]; exact HQS.out, by rw [hP6n]; have h8 := (hk6 0).1; have h7 := HQS.out; have h6 := HP5N.out; omega, HO2.out.pl.bl.size⟩
            have hp56 := ansCell hP56
            have hp6c := ansCellR hP6
            have HU6 : Hid (u6 = _) := hu6
            have HP6N : Hid (P6 = w6.heap.size) := hP6n
            clear hld5 hk6 hd6 hu6 hbu6 hP6 hP56 hl5 hp6 hc6 hf6 hA6 hA62 hB1 hB2 hfree hal hP6n
            go_upto_region 17 with fail
            rw [← HU6.out, ← HP6N.out]
            go_wp2_with fail
            refine Calls.mono HAL.out ?_
            rintro e7 w7 ⟨rfl, hb7⟩
            have HO7 : Hid _ := HO6.out.below hb7
            have hP57 := (hb7.block _ (Array.getElem?_eq_some_iff.1 HP56.out).1).trans HP56.out
            have hP67 := (hb7.block _ (Array.getElem?_eq_some_iff.1 HP6.out).1).trans HP6.out
            have hwB := HBB.out
            have HBY7 : Hid (OwnG KBy w7 w.heap.size (.slice ba bn bc) bx) := OwnG.base (own_KBy.2 (Own.below HA6.out.bl hb7)) (by omega)
            have HRG7 : Hid (OwnG KRg w7 w.heap.size (.slice ga gn gc) rs) := OwnG.base (own_KRg.2 (OwnR.below HA6.out.gr hb7)) (by omega)
            have HBZ7 : Hid (OwnG KBy w7 w.heap.size (.slice ba2 bn2 bc2) bx) := OwnG.base (own_KBy.2 (Own.below HA62.out.bl hb7)) (by omega)
            have HNW : Hid (∀ b, obI (.slice ga gn gc) b ∨ obI (.slice ba bn bc) b → wq.heap.size ≤ b) := fun b hb => hb.elim (fun h9 => Nat.le_trans hwB.1 (World.ownsRow.lt HA6.out.gr b h9).1) (fun h9 => Nat.le_trans hwB.1 (World.ownsRow.lt HA6.out.bl b h9).1)
            have HOB : Hid (∀ v ∈ bs2, apI v (.slice ba bn bc)) := fun v hv b h1 h2 => by have h9 := HNW.out b (.inr h2); have h8 := (HO2.out.rw_.fb.lt2 hv h1).2; omega
            have HOG : Hid (∀ v ∈ gs2, apI v (.slice ga gn gc)) := fun v hv b h1 h2 => by have h9 := HNW.out b (.inl h2); have h8 := (HO2.out.rw_.fg.lt2 hv h1).2; omega
            have HX1 : Hid (bx.length ≤ 1048576 ∧ rs.length ≤ 64) := ⟨HA6.out.b1k, HA6.out.g64⟩
            have HP57 : Hid _ := hP57
            have HP67 : Hid _ := hP67
            have hc57 := ansCell hP57
            have HAB7 : Hid (∀ ob, Below w7.heap.size w7 (w7.alloc ob)) := fun ob => al (Below.refl _ _) ob
            have HS7 : Hid (w.heap.size ≤ w7.heap.size) := HO7.out.pl.bl.size
            clear hb7 hP57 hP67 hp56 hp6c hwB
            go_upto_region 20 with (at_builtin; refine wp_appV rfl _ _ 22 tB8 (.slice none 0 0) 24 rfl Tryz.underlying22 info_slB rfl w.heap.size (.slice b1 m1 d1) m1 bs2 HM1.out rfl (HO7.out.below (HAB7.out _)).rw_.rb w7.heap.size 1 1 [.slice ba bn bc] rfl rfl (heap_alloc_new w7 _) (by intro u hu; simp at hu; subst hu; rfl) (by decide) (by omega) (by omega) (Nat.le_trans HS7.out (HAB7.out _).size) ?_; intro g8 c8 w8 hown8 hg8 hat8; have HO8r : Hid _ := hown8; have HG8 : Hid _ := hg8; have HT8 : Hid _ := hat8; clear hown8 hg8 hat8)
            have HO7a : Hid (OwI w (w7.alloc (.cells #[.slice ba bn bc] tB8)) p q (N2 + 1) I3 F3 G3 (.slice b1 m1 d1) (.slice b2 m2 d2) (.slice b3 m3 d3) (.slice a4 n4 c4) bs2 gs2 ls2 T2 T2 R2 L2) := HO7.out.below (HAB7.out _)
            have HO8 : Hid _ := HO7a.out.pushB HO8r.out HG8.out HT8.out (OwnG.below HBY7.out (HAB7.out _)) (fun b hb => ⟨HO7a.out.rw_.notB (OwnG.below HBY7.out (HAB7.out _)) HOB.out hb, HFR.out b (.inr hb)⟩) HX1.out.1
            have HRG8 : Hid (OwnG KRg w8 w.heap.size (.slice ga gn gc) rs) := rowI_grown (OwnG.below HRG7.out (HAB7.out _)) HG8.out (rowI_ty HO7a.out.rw_.rb (OwnG.below HRG7.out (HAB7.out _)) (by decide))
            have HBZ8 : Hid (OwnG KBy w8 w.heap.size (.slice ba2 bn2 bc2) bx) := rowI_grown (OwnG.below HBZ7.out (HAB7.out _)) HG8.out (rowI_ty HO7a.out.rw_.rb (OwnG.below HBZ7.out (HAB7.out _)) (by decide))
            have HNV : Hid (∀ b, obI (.slice b1 m1 d1) b ∨ obI (.slice b2 m2 d2) b → b < wq.heap.size) := fun b hb => hb.elim (fun h9 => (HO2.out.rw_.lt (.inl h9)).2) (fun h9 => (HO2.out.rw_.lt (.inr (.inl h9))).2)
            have hl57 := (Array.getElem?_eq_some_iff.1 HP57.out).1
            have hl67 := (Array.getElem?_eq_some_iff.1 HP67.out).1
            have HP58 : Hid _ := (HG8.out.block P5 (Nat.lt_of_lt_of_le hl57 (HAB7.out _).size) (fun e9 => by have h8 := HNV.out P5 (.inl e9.symm); have := HBB.out; omega)).trans (((HAB7.out _).block P5 hl57).trans HP57.out)
            have HP68 : Hid _ := (HG8.out.block P6 (Nat.lt_of_lt_of_le hl67 (HAB7.out _).size) (fun e9 => by have h8 := HNV.out P6 (.inl e9.symm); have := HBB.out; omega)).trans (((HAB7.out _).block P6 hl67).trans HP67.out)
            have hc68 := ansCellR HP68.out
            obtain ⟨az, cz, hvz, -, -, -, hrz, -⟩ := Own.val (own_KBy.1 HBZ8.out)
            simp only [Value.slice.injEq] at hvz
            have hv8 := conv_rd' (by rw [hvz.1]; exact hrz : Rd w8 ba2 bx) bn2 bc2 hvz.2.1
            have HAB8 : Hid (∀ ob, Below w8.heap.size w8 (w8.alloc ob)) := fun ob => al (Below.refl _ _) ob
            have HS8 : Hid (w.heap.size ≤ w8.heap.size) := HO8.out.pl.bl.size
            have HRT8 : Hid (∀ ob, (w8.alloc ob).ownsRow w.heap.size tSt 1 (.slice b2 m2 d2) (T2.map strV).length (T2.map strV)) := fun ob => by rw [List.length_map]; exact (HO8.out.below (HAB8.out ob)).rw_.rt
            clear hl57 hl67 hvz hrz hc57
            go_upto_region 21 with (at_builtin; refine wp_appV rfl _ _ 60 tSt (.string ⟨#[]⟩) 16 rfl Tryz.underlying60 info_st rfl w.heap.size (.slice b2 m2 d2) m2 (T2.map strV) (by rw [List.length_map]; exact HM2.out) rfl (HRT8.out _) w8.heap.size 1 1 [strV bx] rfl rfl (heap_alloc_new w8 _) (by intro u hu; simp at hu; subst hu; rfl) (by decide) (by omega) (by omega) (Nat.le_trans HS8.out (HAB8.out _).size) ?_; intro g9 c9 w9 hown9 hg9 hat9; have HO9r : Hid _ := hown9; have HG9 : Hid _ := hg9; have HT9 : Hid _ := hat9; clear hown9 hg9 hat9)
            have HO8a : Hid (OwI w (w8.alloc (.cells #[.string ⟨bx.toArray⟩] tSt)) p q (N2 + 1) I3 F3 G3 (.slice (some ⟨g8, 0, none⟩) (m1 + 1) c8) (.slice b2 m2 d2) (.slice b3 m3 d3) (.slice a4 n4 c4) (bs2 ++ [.slice ba bn bc]) gs2 ls2 (T2 ++ [bx]) T2 R2 L2) := HO8.out.below (HAB8.out _)
            have HO9 : Hid _ := HO8a.out.pushT HO9r.out HG9.out HT9.out
            have HRG9 : Hid (OwnG KRg w9 w.heap.size (.slice ga gn gc) rs) := rowI_grown (OwnG.below HRG8.out (HAB8.out _)) HG9.out (rowI_ty HO8a.out.rw_.rt (OwnG.below HRG8.out (HAB8.out _)) (by decide))
            have hl58 := (Array.getElem?_eq_some_iff.1 HP58.out).1
            have hP59 := (HG9.out.block P5 (Nat.lt_of_lt_of_le hl58 (HAB8.out _).size) (fun e9 => by have h8 := HNV.out P5 (.inr e9.symm); have := HBB.out; omega)).trans (((HAB8.out _).block P5 hl58).trans HP58.out)
            have hc59 := ansCell hP59
            have HAB9 : Hid (∀ ob, Below w9.heap.size w9 (w9.alloc ob)) := fun ob => al (Below.refl _ _) ob
            have HS9 : Hid (w.heap.size ≤ w9.heap.size) := HO9.out.pl.bl.size
            clear hl58 hP59 hc68 hv8
            go_wp2_with (at_builtin; refine wp_appV rfl _ _ 61 tRL (.slice none 0 0) 24 rfl Tryz.underlying61 info_slR rfl w.heap.size (.slice b3 m3 d3) m3 gs2 HM3.out rfl (HO9.out.below (HAB9.out _)).rw_.rg w9.heap.size 1 1 [.slice ga gn gc] rfl rfl (heap_alloc_new w9 _) (by intro u hu; simp at hu; subst hu; rfl) (by decide) (by omega) (by omega) (Nat.le_trans HS9.out (HAB9.out _).size) ?_; intro g10 c10 w10 hown10 hg10 hat10; have HO10r : Hid _ := hown10; have HG10 : Hid _ := hg10; have HT10 : Hid _ := hat10; clear hown10 hg10 hat10)
            have HO9a : Hid (OwI w (w9.alloc (.cells #[.slice ga gn gc] tRL)) p q (N2 + 1) I3 F3 G3 (.slice (some ⟨g8, 0, none⟩) (m1 + 1) c8) (.slice (some ⟨g9, 0, none⟩) (m2 + 1) c9) (.slice b3 m3 d3) (.slice a4 n4 c4) (bs2 ++ [.slice ba bn bc]) gs2 ls2 (T2 ++ [bx]) (T2 ++ [bx]) R2 L2) := HO9.out.below (HAB9.out _)
            have HO10 : Hid _ := HO9a.out.pushG HO10r.out HG10.out HT10.out (OwnG.below HRG9.out (HAB9.out _)) (fun b hb => ⟨HO9a.out.rw_.notR (OwnG.below HRG9.out (HAB9.out _)) HOG.out hb, HFR.out b (.inl hb)⟩) HX1.out.2
            go_roundw
            case rel => exact ⟨k2 + 1, N2 + 1, by omega, by go_num, by omega, ⟨⟨_, _, _, _, _, _, _, _, _, HO10.out, by rw [List.length_append, ← HM1.out]; show m1 + 1 ≤ _; omega, by rw [List.length_append, ← HM3.out]; show m3 + 1 ≤ _; omega, HL2.out.2⟩⟩⟩
            case measure => simp [intOf]; omega
          · have hl2i : ¬ (k2 : Int) < 2 := by omega
            have HO : Hid _ := hO2
            have HN4 : Hid (n4 = ls2.length) := HL2.out.1
            have hn4b : n4 ≤ 3 * k := by have := HL2.out; omega
            clear hX2 hO2 hm1 hm2 hm3 hnb2 hng2 hnl2
            have HOP : Hid (Calls _ _ _ wq _) := open_a HO.out.pl.a
            have HDC : Hid (∀ u, Below wq.heap.size wq u → Calls _ _ _ u _) := fun u hu => decd_a (HO.out.pl.below hu).a
            have HOP2 : Hid (∀ u, Below wq.heap.size wq u → Calls _ _ _ u _) := fun u hu => open_a (HO.out.pl.below hu).a
            have HOK : Hid _ := HO.out.pl.a.ok
            go_wp2_with fail
            refine Calls.mono HOP.out ?_
            rintro e20 w20 ⟨v20, rfl, hv20, hb20⟩
            obtain ⟨a20, c20, hq20, -, -, -, -⟩ := OwnG.val hv20
            obtain ⟨n20, hn20⟩ : ∃ n20, n20 = (ks I2.O).length := ⟨_, rfl⟩
            rw [← hn20] at hq20
            subst hq20
            have HV20 : Hid _ := hv20
            have HB20 : Hid _ := hb20
            have HN20 : Hid _ := hn20
            clear hv20 hb20 hn20
            go_wp2_with fail
            refine Calls.mono (HDC.out _ HB20.out) ?_
            rintro e21 w21 ⟨v21, rfl, hv21, hb21⟩
            obtain ⟨a21, c21, hq21, -, -, -, -⟩ := OwnG.val hv21
            obtain ⟨n21, hn21⟩ : ∃ n21, n21 = (ks I2.H).length := ⟨_, rfl⟩
            rw [← hn21] at hq21
            subst hq21
            have HV21 : Hid _ := hv21
            have HB21 : Hid _ := below_next HB20.out hb21
            have HB21' : Hid _ := hb21
            clear hv21 hb21 hn21
            go_wp2_with fail
            refine Calls.mono (HOP2.out _ HB21.out) ?_
            rintro e22 w22 ⟨v22, rfl, hv22, hb22⟩
            obtain ⟨a22, c22, hq22, -, -, -, -⟩ := OwnG.val hv22
            rw [← HN20.out] at hq22
            subst hq22
            have HB22 : Hid (Below wq.heap.size wq w22) := below_next HB21.out hb22
            have HO22 : Hid _ := HO.out.below HB22.out
            have z3 := HO.out.pl.bl.size
            have z20 := HB20.out.size
            have z21 := HB21'.out.size
            have z22 := hb22.size
            have HU1 : Hid (OwnG KSs w22 w.heap.size (.slice a20 n20 c20) (ks I2.O)) := OwnG.base (OwnG.below HV20.out (below_next HB21'.out hb22)) (by omega)
            have HU2 : Hid (OwnG KSs w22 w.heap.size (.slice a21 n21 c21) (ks I2.H)) := OwnG.base (OwnG.below HV21.out hb22) (by omega)
            have HU3 : Hid (OwnG KSs w22 w.heap.size (.slice a22 n20 c22) (ks I2.O)) := OwnG.base hv22 (by omega)
            have HR20 : Hid ((∀ b, obI (.slice a20 n20 c20) b → wq.heap.size ≤ b ∧ b < w20.heap.size) ∧ (∀ b, obI (.slice a21 n21 c21) b → w20.heap.size ≤ b ∧ b < w21.heap.size) ∧ (∀ b, obI (.slice a22 n20 c22) b → w21.heap.size ≤ b ∧ b < w22.heap.size)) := ⟨fun b hb => OwnG.lt' HV20.out hb, fun b hb => OwnG.lt' HV21.out hb, fun b hb => OwnG.lt' hv22 hb⟩
            have HZ : Hid (w.heap.size ≤ w22.heap.size ∧ wq.heap.size ≤ w20.heap.size ∧ w20.heap.size ≤ w21.heap.size) := ⟨by omega, by omega, by omega⟩
            have HAB : Hid (∀ ob, Below w22.heap.size w22 (w22.alloc ob)) := fun ob => al (Below.refl _ _) ob
            clear hv22 hb22 z3 z20 z21 z22
            go_wp2_with (at_builtin; refine wp_appV rfl _ _ 62 tSL (.slice none 0 0) 24 rfl Tryz.underlying62 info_slS rfl w.heap.size (.slice a4 n4 c4) n4 ls2 HN4.out rfl (HO22.out.below (HAB.out _)).rw_.rl w22.heap.size 3 3 [.slice a20 n20 c20, .slice a21 n21 c21, .slice a22 n20 c22] rfl rfl (heap_alloc_new w22 _) (by intro u hu; simp at hu; rcases hu with rfl | rfl | rfl <;> rfl) (by decide) (by omega) (by omega) (Nat.le_trans HZ.out.1 (HAB.out _).size) ?_; intro g23 c23 w23 hown23 hg23 hat23; have HO23 : Hid _ := hown23; have HG23 : Hid _ := hg23; have HT23 : Hid _ := hat23; clear hown23 hg23 hat23)
            have HF23 : Hid (∀ b, obI (.slice a20 n20 c20) b ∨ obI (.slice a21 n21 c21) b ∨ obI (.slice a22 n20 c22) b → wq.heap.size ≤ b) := fun b hb => by
              have h9 := HZ.out
              have h8 := HR20.out
              rcases hb with hb | hb | hb
              · exact (h8.1 b hb).1
              · have := (h8.2.1 b hb).1; omega
              · have := (h8.2.2 b hb).1; omega
            have HOE : Hid _ := OwI.pushL (HO22.out.below (HAB.out _)) HO23.out HG23.out HT23.out (OwnG.below HU1.out (HAB.out _)) (OwnG.below HU2.out (HAB.out _)) (OwnG.below HU3.out (HAB.out _)) (fun b hb => ⟨fun h9 => by have h7 := HF23.out b hb; have h8 := (HO.out.rw_.lt h9).2; omega, fun h9 => by have h7 := HF23.out b hb; have h8 := HO.out.pl.lt h9; omega⟩) (fun b e1 e2 => by have h7 := HR20.out.1 b e1; have h8 := HR20.out.2.1 b e2; omega) (fun b e1 e2 => by have h7 := HR20.out.1 b e1; have h8 := HR20.out.2.2 b e2; have := HZ.out; omega) (fun b e1 e2 => by have h7 := HR20.out.2.1 b e1; have h8 := HR20.out.2.2 b e2; omega) (by rw [len_ks]; have := HOK.out.lo; have := HOK.out.o1; omega) (by rw [len_ks]; have := HOK.out.ls; have := HOK.out.s1; omega) (by rw [len_ks]; have := HOK.out.lo; have := HOK.out.o1; omega)
            go_roundw
            case rel => exact ⟨k + 1, N2, by omega, by go_num, by omega, ⟨⟨_, _, _, _, _, _, _, _, _, HOE.out, by rw [← HM1.out]; omega, by rw [← HM3.out]; omega, by rw [List.length_append, ← HN4.out]; show n4 + 3 ≤ _; omega⟩⟩⟩
            case measure => simp [intOf]; omega
      · have hkq : (y.kd == 1) = false := by simp [hkd]
        have HPL : Hid (Calls _ _ _ wr _) := plays_t hO.pl y hop (by omega)
        have HO0 : Hid _ := hO
        obtain ⟨J, hJ⟩ : ∃ J, J = doI I y := ⟨_, rfl⟩
        rw [← hJ] at HPL
        clear hX hO hrng hop hk1 hy hkd hn1 hn2 hn3 hn4 hJ hnb hng hnl
        go_wp2_with fail
        refine Calls.mono HPL.out ?_
        rintro e3 w3 ⟨rfl, F3, G3, hp3, hc3, hf3⟩
        have HO : Hid _ := HO0.out.step hp3 hc3 hf3
        clear hp3 hc3 hf3 hld
        have HOP : Hid (Calls _ _ _ w3 _) := open_a HO.out.pl.a
        have HDC : Hid (∀ u, Below w3.heap.size w3 u → Calls _ _ _ u _) := fun u hu => decd_a (HO.out.pl.below hu).a
        have HOP2 : Hid (∀ u, Below w3.heap.size w3 u → Calls _ _ _ u _) := fun u hu => open_a (HO.out.pl.below hu).a
        have HOK : Hid _ := HO.out.pl.a.ok
        go_wp2_with fail
        refine Calls.mono HOP.out ?_
        rintro e20 w20 ⟨v20, rfl, hv20, hb20⟩
        obtain ⟨a20, c20, hq20, -, -, -, -⟩ := OwnG.val hv20
        obtain ⟨n20, hn20⟩ : ∃ n20, n20 = (ks J.O).length := ⟨_, rfl⟩
        rw [← hn20] at hq20
        subst hq20
        have HV20 : Hid _ := hv20
        have HB20 : Hid _ := hb20
        have HN20 : Hid _ := hn20
        clear hv20 hb20 hn20
        go_wp2_with fail
        refine Calls.mono (HDC.out _ HB20.out) ?_
        rintro e21 w21 ⟨v21, rfl, hv21, hb21⟩
        obtain ⟨a21, c21, hq21, -, -, -, -⟩ := OwnG.val hv21
        obtain ⟨n21, hn21⟩ : ∃ n21, n21 = (ks J.H).length := ⟨_, rfl⟩
        rw [← hn21] at hq21
        subst hq21
        have HV21 : Hid _ := hv21
        have HB21 : Hid _ := below_next HB20.out hb21
        have HB21' : Hid _ := hb21
        clear hv21 hb21 hn21
        go_wp2_with fail
        refine Calls.mono (HOP2.out _ HB21.out) ?_
        rintro e22 w22 ⟨v22, rfl, hv22, hb22⟩
        obtain ⟨a22, c22, hq22, -, -, -, -⟩ := OwnG.val hv22
        rw [← HN20.out] at hq22
        subst hq22
        have HB22 : Hid (Below w3.heap.size w3 w22) := below_next HB21.out hb22
        have HO22 : Hid _ := HO.out.below HB22.out
        have z3 := HO.out.pl.bl.size
        have z20 := HB20.out.size
        have z21 := HB21'.out.size
        have z22 := hb22.size
        have HU1 : Hid (OwnG KSs w22 w.heap.size (.slice a20 n20 c20) (ks J.O)) := OwnG.base (OwnG.below HV20.out (below_next HB21'.out hb22)) (by omega)
        have HU2 : Hid (OwnG KSs w22 w.heap.size (.slice a21 n21 c21) (ks J.H)) := OwnG.base (OwnG.below HV21.out hb22) (by omega)
        have HU3 : Hid (OwnG KSs w22 w.heap.size (.slice a22 n20 c22) (ks J.O)) := OwnG.base hv22 (by omega)
        have HR20 : Hid ((∀ b, obI (.slice a20 n20 c20) b → w3.heap.size ≤ b ∧ b < w20.heap.size) ∧ (∀ b, obI (.slice a21 n21 c21) b → w20.heap.size ≤ b ∧ b < w21.heap.size) ∧ (∀ b, obI (.slice a22 n20 c22) b → w21.heap.size ≤ b ∧ b < w22.heap.size)) := ⟨fun b hb => OwnG.lt' HV20.out hb, fun b hb => OwnG.lt' HV21.out hb, fun b hb => OwnG.lt' hv22 hb⟩
        have HZ : Hid (w.heap.size ≤ w22.heap.size ∧ w3.heap.size ≤ w20.heap.size ∧ w20.heap.size ≤ w21.heap.size) := ⟨by omega, by omega, by omega⟩
        have HAB : Hid (∀ ob, Below w22.heap.size w22 (w22.alloc ob)) := fun ob => al (Below.refl _ _) ob
        clear hv22 hb22 z3 z20 z21 z22
        go_wp2_with (at_builtin; refine wp_appV rfl _ _ 62 tSL (.slice none 0 0) 24 rfl Tryz.underlying62 info_slS rfl w.heap.size (.slice a4 n4 c4) n4 ls HN4.out rfl (HO22.out.below (HAB.out _)).rw_.rl w22.heap.size 3 3 [.slice a20 n20 c20, .slice a21 n21 c21, .slice a22 n20 c22] rfl rfl (heap_alloc_new w22 _) (by intro u hu; simp at hu; rcases hu with rfl | rfl | rfl <;> rfl) (by decide) (by omega) (by omega) (Nat.le_trans HZ.out.1 (HAB.out _).size) ?_; intro g23 c23 w23 hown23 hg23 hat23; have HO23 : Hid _ := hown23; have HG23 : Hid _ := hg23; have HT23 : Hid _ := hat23; clear hown23 hg23 hat23)
        have HF23 : Hid (∀ b, obI (.slice a20 n20 c20) b ∨ obI (.slice a21 n21 c21) b ∨ obI (.slice a22 n20 c22) b → w3.heap.size ≤ b) := fun b hb => by
          have h9 := HZ.out
          have h8 := HR20.out
          rcases hb with hb | hb | hb
          · exact (h8.1 b hb).1
          · have := (h8.2.1 b hb).1; omega
          · have := (h8.2.2 b hb).1; omega
        have HOE : Hid _ := OwI.pushL (HO22.out.below (HAB.out _)) HO23.out HG23.out HT23.out (OwnG.below HU1.out (HAB.out _)) (OwnG.below HU2.out (HAB.out _)) (OwnG.below HU3.out (HAB.out _)) (fun b hb => ⟨fun h9 => by have h7 := HF23.out b hb; have h8 := (HO.out.rw_.lt h9).2; omega, fun h9 => by have h7 := HF23.out b hb; have h8 := HO.out.pl.lt h9; omega⟩) (fun b e1 e2 => by have h7 := HR20.out.1 b e1; have h8 := HR20.out.2.1 b e2; omega) (fun b e1 e2 => by have h7 := HR20.out.1 b e1; have h8 := HR20.out.2.2 b e2; have := HZ.out; omega) (fun b e1 e2 => by have h7 := HR20.out.2.1 b e1; have h8 := HR20.out.2.2 b e2; omega) (by rw [len_ks]; have := HOK.out.lo; have := HOK.out.o1; omega) (by rw [len_ks]; have := HOK.out.ls; have := HOK.out.s1; omega) (by rw [len_ks]; have := HOK.out.lo; have := HOK.out.o1; omega)
        go_roundw
        case rel => exact ⟨k + 1, (N + 1), by omega, by go_num, by omega, ⟨⟨_, _, _, _, _, _, _, _, _, HOE.out, by rw [← HN1.out]; omega, by rw [← HN3.out]; omega, by rw [List.length_append, ← HN4.out]; show n4 + 3 ≤ _; omega⟩⟩⟩
        case measure => simp [intOf]; omega
    · have hlti : ¬ (k : Int) < (M : Int) := by omega
      have HO : Hid _ := hO
      have HN12 : Hid (n2 = n1) := by unfold Hid; rw [hn1, hn2]; exact hO.rw_.nb
      have HNX : Hid (N ≤ 2 * k) := hN
      have HBT : Hid (∀ j, j < n1 → ∃ gb gt x da dn dc, a1 = some ⟨gb, 0, none⟩ ∧ a2 = some ⟨gt, 0, none⟩ ∧ ∀ u, Below wr.heap.size wr u → u.cell? ⟨gb, j, none⟩ = some (.slice da dn dc) ∧ (convert 34 9 (.slice da dn dc)).run Tryz.prog u = .ok (.string ⟨(x : List UInt8).toArray⟩) u ∧ u.cell? ⟨gt, j, none⟩ = some (.string ⟨x.toArray⟩)) := fun j hj => by
        have hjb : j < bs.length := by rw [← HN1.out]; exact hj
        have hjT : j < T.length := by rw [HO.out.rw_.nb]; exact hjb
        have rb := HO.out.rw_.rb
        rw [← HN1.out] at rb
        have rt := HO.out.rw_.rt
        rw [← HN2.out] at rt
        obtain ⟨gb, hgb⟩ := rowI_some rb (by omega)
        obtain ⟨gt, hgt⟩ := rowI_some rt (by have := HN12.out; omega)
        rw [hgb] at rb
        rw [hgt] at rt
        have hv : bs[j]? = some bs[j] := List.getElem?_eq_getElem hjb
        have ho := HO.out.rw_.fb.own j _ hv
        rw [List.getElem?_eq_getElem hjT, Option.getD_some] at ho
        obtain ⟨ao, cap, ev, -, -, -, hrd, -⟩ := Own.val (own_KBy.1 ho)
        refine ⟨gb, gt, T[j], ao, T[j].length, cap, hgb, hgt, fun u hu => ⟨?_, conv_rd' (Rd.below hrd hu) _ cap rfl, ?_⟩⟩
        · rw [World.ownsRow.cellAt (rowI_below rb hu) j (by omega), hv, ev]
        · rw [World.ownsRow.cellAt (rowI_below rt hu) j (by have := HN12.out; omega), List.getElem?_map, List.getElem?_eq_getElem hjT]
          rfl
      clear hX hO hn1 hn2 hn3 hn4 hnb hng hnl
      go_wp2_with fail
      go_loopw [18] (fun i wr5 => ∃ j : Nat, j ≤ n1 ∧ i = .int .i64 (j : Int) ∧ Below wr.heap.size wr wr5) (fun i _ => n1 - (intOf i).toNat)
      case atStart => exact ⟨0, Nat.zero_le _, rfl, Below.refl _ _⟩
      case round =>
        obtain ⟨j, hj, rfl, hb5⟩ := hrel
        rename World => w5
        have HB5 : Hid (Below wr.heap.size wr w5) := hb5
        have hjw : IntKind.i64.wrap ((j : Int) + 1) = ((j + 1 : Nat) : Int) := by rw [IntKind.wrap_i64]; omega
        by_cases hlj : j < n1
        · have hlji : (j : Int) < (n1 : Int) := by omega
          have hlj2 : (j : Int) < (n2 : Int) := by have := HN12.out; omega
          have hj0 : (0 : Int) ≤ (j : Int) := by omega
          obtain ⟨gb, gt, x, da, dn, dc, ea1, ea2, hf⟩ := HBT.out j hlj
          subst ea1 ea2
          have hf1 : ∀ u, Below wr.heap.size wr u → u.cell? ⟨gb, j, none⟩ = some (.slice da dn dc) := fun u hu => (hf u hu).1
          have hf2 : ∀ u, Below wr.heap.size wr u → (convert 34 9 (.slice da dn dc)).run Tryz.prog u = .ok (.string ⟨x.toArray⟩) u := fun u hu => (hf u hu).2.1
          have hf3 : ∀ u, Below wr.heap.size wr u → u.cell? ⟨gt, j, none⟩ = some (.string ⟨x.toArray⟩) := fun u hu => (hf u hu).2.2
          clear hf
          go_wp2_with fail
          refine wp_region_noPanic ?_
          refine wp_region_held_drew (S := (fun u => Below wr.heap.size wr u)) (by kernel_rfl) (by first | exact hb5.drew | assumption) (fun hHeld => ?_)
          refine tz (i := 0) 117 rfl rfl hHeld ?_
          simp only [pS]
          refine tz (i := 1) 118 rfl rfl hHeld ?_
          simp only [pS]
          refine tz (i := 2) 119 rfl rfl hHeld ?_
          simp only [pS]
          refine tz (i := 3) 120 rfl rfl hHeld ?_
          simp only [pS]
          refine tz (i := 4) 121 rfl rfl hHeld ?_
          simp only [pS]
          refine tz (i := 5) 122 rfl rfl hHeld ?_
          simp only [pS]
          refine tz (i := 6) 123 rfl rfl hHeld ?_
          simp only [pS]
          refine tz (i := 7) 124 rfl rfl hHeld ?_
          simp only [pS]
          refine tz (i := 8) 125 rfl rfl hHeld ?_
          simp only [pS]
          refine tk (i := 9) 126 (v := .bool false) rfl rfl ?_ hHeld ?_
          · (intro w hSw; (try dsimp only at hSw); go_simp; try simp [neq_str])
          simp only [pS]
          refine wpAnyH_done (by kernel_rfl) ?_ _
          refine NoPanic.normal ?_
          go_wp2
          go_roundw
          case rel => exact ⟨j + 1, by omega, by go_num, HB5.out.drew⟩
          case measure => simp [intOf]; omega
        · have hlji : ¬ (j : Int) < (n1 : Int) := by omega
          have HO5 : Hid _ := HO.out.below hb5
          have hw5 := HO5.out.pl.bl.size
          have HAP : Hid (Calls _ _ _ w5 _) := apartBytes_t w.heap.size (.slice a1 n1 c1) bs (fun j => T[j]?.getD []) w5 HO5.out.rw_.rb HO5.out.rw_.fb (by rw [← HN1.out]; omega) (fun j => Nat.le_trans (getD_len HO5.out.rw_.bb j) (by decide)) hw5
          clear hb5 hw5
          go_wp2_with fail
          refine Calls.mono HAP.out ?_
          rintro e6 w6 ⟨rfl, hc6⟩
          have HZ6 : Hid _ := HO5.out.afterB hc6
          have HAR : Hid (Calls _ _ _ w6 _) := apartRanges_t w.heap.size (.slice a3 n3 c3) gs (fun j => R[j]?.getD []) w6 HZ6.out.rg HZ6.out.fg (by rw [← HN3.out]; omega) (fun j => Nat.le_trans (getD_len HO5.out.rw_.bg j) (by decide)) HZ6.out.pl.bl.size
          clear hc6
          go_wp2_with fail
          refine Calls.mono HAR.out ?_
          rintro e7 w7 ⟨rfl, hc7⟩
          obtain ⟨hp7, hr7, hf7⟩ := HZ6.out.afterG hc7
          have HP7 : Hid _ := hp7
          have HF7 : Hid _ := hf7
          have HAS : Hid (Calls _ _ _ w7 _) := apartSess_t w.heap.size (.slice a4 n4 c4) ls (fun j => L[j]?.getD []) w7 hr7 hf7 (by rw [← HN4.out]; omega) (fun j => Nat.le_trans (getD_len HO5.out.rw_.bl j) (by decide)) hp7.bl.size
          clear hc7 hp7 hr7 hf7
          go_wp2_with fail
          refine Calls.mono HAS.out ?_
          rintro e8 w8 ⟨rfl, hc8⟩
          have HP8 : Hid (Pl w w8 p q N I F G) := HP7.out.afterL HF7.out (fun b hb => HZ6.out.fr b (.inr hb)) hc8
          have HSH : Hid (Calls _ _ _ w8 _) := HP8.out.shows
          clear hc8
          go_wp2_with fail
          refine Calls.mono HSH.out ?_
          rintro e9 w9 ⟨rfl, hb9⟩
          have HP9 : Hid (Pl w w9 p q N I F G) := HP8.out.below hb9
          clear hb9
          go_wp2_with fail
          go_loopw [22] (fun i wr6 => ∃ (k6 : Nat) (I6 : Ib) (F6 G6 : Nat → Prop), k6 ≤ M ∧ i = .int .i64 (k6 : Int) ∧ Pl w wr6 p q (N + k6) I6 F6 G6) (fun i _ => M - (intOf i).toNat)
          case atStart => exact ⟨0, I, F, G, Nat.zero_le _, rfl, HP9.out⟩
          case round =>
            obtain ⟨k6, I6, F6, G6, hk6, rfl, hpl⟩ := hrel
            rename World => wz
            have hk6w : IntKind.i64.wrap ((k6 : Int) + 1) = ((k6 + 1 : Nat) : Int) := by rw [IntKind.wrap_i64]; omega
            by_cases hlt6 : k6 < M
            · have hlti6 : (k6 : Int) < (M : Int) := by omega
              have hk60 : (0 : Int) ≤ (k6 : Int) := by omega
              have hk61 : k6 < xs.length := by rw [← HML.out]; exact hlt6
              obtain ⟨sb, so, rfl, hrng, hop⟩ := HX.out k6 hk61
              obtain ⟨y, hy⟩ : ∃ y, y = xs[k6] := ⟨_, rfl⟩
              rw [← hy] at hrng hop
              have hld := opRange (rangeAt_below hrng hpl.bl)
              have HPL : Hid (Calls _ _ _ wz _) := plays_t hpl y hop (by have := HNX.out; omega)
              obtain ⟨J, hJ⟩ : ∃ J, J = doI I6 y := ⟨_, rfl⟩
              rw [← hJ] at HPL
              clear hpl hrng hop hJ hk61 hy
              go_wp2_with fail
              refine Calls.mono HPL.out ?_
              rintro e3 w3 ⟨rfl, F3, G3, hp3, -, -⟩
              have HP3 : Hid _ := hp3
              have HSH3 : Hid (Calls _ _ _ w3 _) := hp3.shows
              clear hp3 hld
              go_wp2_with fail
              refine Calls.mono HSH3.out ?_
              rintro e4 w4 ⟨rfl, hb4⟩
              have HP4 : Hid _ := HP3.out.below hb4
              clear hb4
              go_wp2
              go_roundw
              case rel => exact ⟨k6 + 1, J, F3, G3, by omega, by go_num, HP4.out⟩
              case measure => simp [intOf]; omega
            · have hlti6 : ¬ (k6 : Int) < (M : Int) := by omega
              have HPZ : Hid _ := hpl
              clear hpl
              go_wp2
              go_ret
              exact ⟨rfl, HPZ.out.bl⟩
end
end Go.Proofs.YtdoikcolkbjnfaaGreat
