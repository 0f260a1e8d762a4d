import Derived.Test.YtekfolppahnpoaaTolF
namespace Go.Proofs.Ytekfolppahnpoaa
set_option linter.unusedVariables false
set_option linter.unusedSimpArgs false
open Go.RowKit Go.Maps
abbrev tT : TypeId := 33
def okT (T : TypeId) : Prop := T = 5 ∨ T = 3 ∨ T = 40 ∨ T = 37
theorem okT.far {T : TypeId} (h : okT T) : farT T := by rcases h with rfl | rfl | rfl | rfl <;> exact ⟨by decide, by decide, by decide⟩
theorem okT.ne {T : TypeId} (h : okT T) : T ≠ tT := by rcases h with rfl | rfl | rfl | rfl <;> decide
theorem tT_far : farT tT := ⟨by decide, by decide, by decide⟩
theorem Row.blk {r : Row} {w : World} {B b : Nat} (h : r.at w B) (hb : r.v.ownBlock = some b) : ∃ cur, w.heap[b]? = some (.cells cur r.e (0, 0)) := by
  rcases h.2 with ⟨e, -⟩ | ⟨g, cap, cur, e, -, hg, -⟩
  · rw [e] at hb; simp [Value.ownBlock] at hb
  · rw [e] at hb; simp [Value.ownBlock] at hb
    subst hb
    exact ⟨cur, hg⟩
theorem Row.val {r : Row} {w : World} {B : Nat} (h : r.at w B) : ∃ a cap, r.v = .slice a r.xs.length cap ∧ r.xs.length ≤ cap ∧ (0 < r.xs.length → ∃ g, a = some ⟨g, 0, none⟩) := by
  rcases h.2 with ⟨e, h0⟩ | ⟨g, cap, cur, e, -, hg, hn, -⟩
  · exact ⟨none, 0, by rw [e, h0], by omega, fun h => by omega⟩
  · exact ⟨_, _, e, hn, fun _ => ⟨g, rfl⟩⟩
/-- a block of another kind than the disks' changes -/
theorem Ap.grows {W w w' : World} {N : Nat} {P : Nat → Nat} {ds : Nat → Dst} {c b : Nat} {cs : Array Value} {T : TypeId} {fr : Nat × Nat} (h : Ap W w N [] P ds c) (hb : w.heap[b]? = some (.cells cs T fr)) (hT : farT T) (hW : W.heap.size ≤ b) (hg : w.grownBy w' (some b)) : Ap W w' N [] P ds c := by
  obtain ⟨D, h1, h2⟩ := h.ex
  refine ⟨⟨D, h1.kept (F := fun x => x = b) (Chg.of_grown hg (fun x hx => by cases hx; rfl)) (fun i hi x hx e => ?_), h2⟩, fun _ hx => absurd hx List.not_mem_nil, fun _ hx => absurd hx List.not_mem_nil, ?_⟩
  · subst e; exact DK.notT (h1.ok i hi) hx hT hb
  · exact h.bel.trans ((Chg.of_grown (F := fun x => x = b) hg (fun x hx => by cases hx; rfl)).below (fun x hx => by subst hx; exact hW) h.bel.size)
theorem gr_none {w w' : World} (h : w.grownBy w' none) : Below w.heap.size w w' := ⟨h.os, h.tape, h.output, h.size, fun k hk => h.block k hk (by simp)⟩
theorem Ap.growsR {W w w' : World} {N : Nat} {P : Nat → Nat} {ds : Nat → Dst} {c : Nat} {r : Row} (h : Ap W w N [] P ds c) (hr : r.at w W.heap.size) (hT : okT r.e) (hg : w.grownBy w' r.v.ownBlock) : Ap W w' N [] P ds c := by
  cases hv : r.v.ownBlock with
  | none => rw [hv] at hg; exact h.below (gr_none hg)
  | some b =>
    rw [hv] at hg
    obtain ⟨cur, hb⟩ := Row.blk hr hv
    exact h.grows hb hT.far (Row.at_lt hr b hv).1 hg
/-- the two disks, and all that was told -/
structure Ds (W w : World) (P : Nat → Nat) (ds : Nat → Dst) (c K : Nat) (F : Key → Row) : Prop where
  ap : Ap W w 2 [] P ds c
  kc : w.heap[K]? = some (.cells #[(F (4, 0)).v, (F (4, 1)).v, (F (4, 2)).v, (F (4, 3)).v] tT (0, 0))
  hK : W.heap.size ≤ K
  fam : FamK w W.heap.size F
  ty : ∀ x, okT (F x).e
variable {W w w' : World} {P : Nat → Nat} {ds : Nat → Dst} {c K : Nat} {F : Key → Row}
theorem Ds.ltK (h : Ds W w P ds c K F) : K < w.heap.size := (Array.getElem?_eq_some_iff.1 h.kc).1
theorem Ds.below (h : Ds W w P ds c K F) (hb : Below w.heap.size w w') : Ds W w' P ds c K F :=
  ⟨h.ap.below hb, (hb.block K h.ltK).trans h.kc, h.hK, h.fam.below hb, h.ty⟩
theorem Ds.notK (h : Ds W w P ds c K F) (x : Key) : (F x).v.ownBlock ≠ some K := by
  intro e
  obtain ⟨cur, hb⟩ := Row.blk (h.fam.own x) e
  rw [h.kc] at hb
  simp only [Option.some.injEq, Obj.cells.injEq] at hb
  exact (h.ty x).ne hb.2.1.symm
theorem kc_upd {F : Key → Row} {k : Key} {r : Row} (h : k.1 ≠ 4) : #[(updF F k r (4, 0)).v, (updF F k r (4, 1)).v, (updF F k r (4, 2)).v, (updF F k r (4, 3)).v] = #[(F (4, 0)).v, (F (4, 1)).v, (F (4, 2)).v, (F (4, 3)).v] := by
  have e : ∀ j, updF F k r (4, j) = F (4, j) := fun j => updF_other _ (fun e => h (by rw [← e])) _
  rw [e, e, e, e]
theorem ty_upd {F : Key → Row} {k : Key} {r : Row} (h : ∀ x, okT (F x).e) (hr : okT r.e) : ∀ x, okT (updF F k r x).e := fun x => by
  by_cases e : x = k
  · subst e; rw [updF_same]; exact hr
  · rw [updF_other _ e]; exact h x
theorem Ds.put (h : Ds W w P ds c K F) (k : Key) (hk : k.1 ≠ 4) (r : Row) (hr : r.at w W.heap.size) (ht : okT r.e) (hne : ∀ x, r.v.ownBlock = none ∨ r.v.ownBlock ≠ (F x).v.ownBlock) : Ds W w P ds c K (updF F k r) :=
  ⟨h.ap, by rw [kc_upd hk]; exact h.kc, h.hK, h.fam.put k r hr hne, ty_upd h.ty ht⟩
/-- a row that lies in new memory -/
theorem Ds.putNew (h : Ds W w P ds c K F) (hb : Below w.heap.size w w') (k : Key) (hk : k.1 ≠ 4) (r : Row) (hr : r.at w' w.heap.size) (ht : okT r.e) : Ds W w' P ds c K (updF F k r) := by
  refine (h.below hb).put k hk r (Row.at_base hr h.ap.bel.size) ht (fun x => ?_)
  cases hv : r.v.ownBlock with
  | none => exact .inl rfl
  | some g =>
    right
    intro e
    have h1 := (h.fam.lt x g e.symm).2
    have h2 := (Row.at_lt hr g hv).1
    omega
theorem Ds.step (h : Ds W w P ds c K F) (k : Key) (hk : k.1 ≠ 4) (hg : w.grownBy w' (F k).v.ownBlock) (r : Row) (hr : r.at w' W.heap.size) (ht : okT r.e) (hb : r.v.ownBlock = (F k).v.ownBlock ∨ ∀ g, r.v.ownBlock = some g → w.heap.size ≤ g) : Ds W w' P ds c K (updF F k r) :=
  ⟨h.ap.growsR (h.fam.own k) (h.ty k) hg, by rw [kc_upd hk]; exact (hg.block K h.ltK (fun e => h.notK k e.symm)).trans h.kc, h.hK, h.fam.step k hg r hr hb, ty_upd h.ty ht⟩
theorem heap_setK {w : World} {g i : Nat} {t : TypeId} {C : List Value} {v : Value} (h : w.heap[g]? = some (.cells C.toArray t (0, 0))) : (w.setCell ⟨g, i, none⟩ v).heap[g]? = some (.cells (C.set i v).toArray t (0, 0)) := by
  have := heap_setCell_same w g i _ t v h
  simpa only [List.setIfInBounds_toArray] using this
set_option maxRecDepth 20000 in
set_option maxHeartbeats 800000 in
theorem gr_setK (w : World) (g i : Nat) (v : Value) : w.grownBy (w.setCell ⟨g, i, none⟩ v) (some g) := Lib.grownBy_setB (World.grownBy.refl _ _) i v
/-- one of the four lists changes, and is written -/
theorem Ds.list (h : Ds W w P ds c K F) (j : Nat) (hj : j < 4) (hg : w.grownBy w' (F (4, j)).v.ownBlock) (r : Row) (hr : r.at w' W.heap.size) (ht : okT r.e) (hb : r.v.ownBlock = (F (4, j)).v.ownBlock ∨ ∀ g, r.v.ownBlock = some g → w.heap.size ≤ g) :
    (w'.cell? ⟨K, j, none⟩ = some (F (4, j)).v ∧ w'.frozen? ⟨K, j, none⟩ = false) ∧ Ds W (w'.setCell ⟨K, j, none⟩ r.v) P ds c K (updF F (4, j) r) := by
  have hk : w'.heap[K]? = some (.cells [(F (4, 0)).v, (F (4, 1)).v, (F (4, 2)).v, (F (4, 3)).v].toArray tT (0, 0)) := (hg.block K h.ltK (fun e => h.notK (4, j) e.symm)).trans h.kc
  have hap : Ap W w' 2 [] P ds c := h.ap.growsR (h.fam.own (4, j)) (h.ty (4, j)) hg
  have hf := h.fam.step (4, j) hg r hr hb
  have hnr : ∀ x, (updF F (4, j) r x).v.ownBlock ≠ some K := by
    intro x e
    obtain ⟨cur, hb⟩ := Row.blk (hf.own x) e
    rw [hk] at hb
    simp only [Option.some.injEq, Obj.cells.injEq] at hb
    exact (ty_upd h.ty ht x).ne hb.2.1.symm
  refine ⟨⟨?_, ?_⟩, hap.grows hk tT_far h.hK (gr_setK _ _ _ _), ?_, h.hK, hf.far (gr_setK _ _ _ _) (fun x => .inr (hnr x)), ty_upd h.ty ht⟩
  · rw [cell_of_row _ _ j _ _ _ hk]
    match j, hj with
    | 0, _ => rfl
    | 1, _ => rfl
    | 2, _ => rfl
    | 3, _ => rfl
  · simp [World.frozen?, hk]
  · rw [heap_setK hk]
    match j, hj with
    | 0, _ => rfl
    | 1, _ => rfl
    | 2, _ => rfl
    | 3, _ => rfl
/-- a block that is none of them changes -/
theorem Ds.far (h : Ds W w P ds c K F) {r : Row} (hr : r.at w W.heap.size) (ht : okT r.e) (hne : ∀ x, r.v.ownBlock = none ∨ r.v.ownBlock ≠ (F x).v.ownBlock) (hg : w.grownBy w' r.v.ownBlock) : Ds W w' P ds c K F := by
  refine ⟨h.ap.growsR hr ht hg, (hg.block K h.ltK (fun e => ?_)).trans h.kc, h.hK, h.fam.far hg (fun x => ?_), h.ty⟩
  · obtain ⟨cur, hb⟩ := Row.blk hr e.symm
    rw [h.kc] at hb
    simp only [Option.some.injEq, Obj.cells.injEq] at hb
    exact ht.ne hb.2.1.symm
  · rcases hne x with h1 | h1
    · cases hv : (F x).v.ownBlock with
      | none => exact .inl rfl
      | some g => right; rw [h1]; simp
    · exact .inr (fun e => h1 e.symm)
theorem Ds.cellK (h : Ds W w P ds c K F) (j : Nat) (hj : j < 4) : w.cell? ⟨K, j, none⟩ = some (F (4, j)).v := by
  rw [cell_of_row _ _ j _ _ _ h.kc]
  match j, hj with
  | 0, _ => rfl
  | 1, _ => rfl
  | 2, _ => rfl
  | 3, _ => rfl
/-- a cell of a row is written -/
theorem Ds.mark (h : Ds W w P ds c K F) (k : Key) (hk : k.1 ≠ 4) (g n cap : Nat) (hv : (F k).v = .slice (some ⟨g, 0, none⟩) n cap) (hn : n = (F k).xs.length) (j : Nat) (u : Value) : Ds W (w.setCell ⟨g, j, none⟩ u) P ds c K (updF F k ⟨(F k).e, (F k).v, (F k).xs.set j u⟩) := by
  subst hn
  have h0 : w.ownsRow W.heap.size (F k).e 1 (.slice (some ⟨g, 0, none⟩) (F k).xs.length cap) (F k).xs.length (F k).xs := by rw [← hv]; exact h.fam.own k
  have h1 := World.ownsRow.stored h0 j u
  refine h.step k hk (by rw [hv]; exact h1.2) _ ?_ (h.ty k) (.inl rfl)
  unfold Row.at
  simp only [List.length_set]
  rw [hv]
  exact h1.1
/-- nothing changed but of the disks' kinds -/
structure FarK (w w' : World) : Prop where
  os : w'.os = w.os
  tape : w'.tape = w.tape
  output : w'.output = w.output
  size : w.heap.size ≤ w'.heap.size
  blk : ∀ (b : Nat) (cs : Array Value) (T : TypeId) (fr : Nat × Nat), w.heap[b]? = some (.cells cs T fr) → farT T → w'.heap[b]? = some (.cells cs T fr)
theorem Ap.runFar {N : Nat} (h : Ap W w N [] P ds c) (i : Nat) (hi : i < N) (a : Option Addr) (xs : List Stp) (hx : RdSt W a xs) (cap : Nat) (most : Int) (hc : c + xs.length ≤ 1099511627776) :
    Calls Try.prog 6 #[.pointer (some ⟨P i, 0, none⟩), .slice a xs.length cap, .int .i64 most] w fun e w' => e = .returned (.int .i64 ((runS most 0 0 (ds i) xs).2 : Nat)) ∧ Ap W w' N [] P (updS ds i (runS most 0 0 (ds i) xs).1) (c + xs.length) ∧ FarK w w' := by
  obtain ⟨D, h1, h2⟩ := h.ex
  obtain ⟨e1, e2, e3⟩ := h2 i hi
  have hr := run_t (D i).p (D i).g (D i).m (D i).d (D i).V (D i).n a cap xs most W w (h1.ok i hi) (by omega) hx h.bel (h1.above i hi)
  rw [e1, e2] at hr
  refine hr.mono ?_
  rintro e w' ⟨rfl, V', hs, hst⟩
  rw [← e1] at hs hst
  refine ⟨rfl, h.step (by omega) h1 h2 hi (by omega) hs hst, hst.chg.os, hst.chg.tape, hst.chg.output, hst.chg.size, fun b cs T fr hb hT => ?_⟩
  exact (hst.chg.block b (Array.getElem?_eq_some_iff.1 hb).1 (fun hf => DK.notT (h1.ok i hi) hf hT hb)).trans hb
theorem FamK.farK {B : Nat} (h : FamK w B F) (ht : ∀ x, okT (F x).e) (hf : FarK w w') : FamK w' B F := by
  refine ⟨fun x => ⟨(h.own x).1, ?_⟩, h.dis⟩
  rcases (h.own x).2 with h0 | ⟨g, cap, cur, e, hB, hg, r⟩
  · exact .inl h0
  · exact .inr ⟨g, cap, cur, e, hB, hf.blk _ _ _ _ hg (ht x).far, r⟩
theorem Ds.run (h : Ds W w P ds c K F) (i : Nat) (hi : i < 2) (a : Option Addr) (xs : List Stp) (hx : RdSt W a xs) (cap : Nat) (most : Int) (hc : c + xs.length ≤ 1099511627776) :
    Calls Try.prog 6 #[.pointer (some ⟨P i, 0, none⟩), .slice a xs.length cap, .int .i64 most] w fun e w' => ∃ z, e = .returned (.int .i64 z) ∧ Ds W w' P (updS ds i (runS most 0 0 (ds i) xs).1) (c + xs.length) K F := by
  refine (h.ap.runFar i hi a xs hx cap most hc).mono ?_
  rintro e w' ⟨rfl, h1, h2⟩
  exact ⟨_, rfl, h1, h2.blk _ _ _ _ h.kc tT_far, h.hK, h.fam.farK h.ty h2, h.ty⟩
end Go.Proofs.Ytekfolppahnpoaa
