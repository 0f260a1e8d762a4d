import Derived.Test.YtibepnilhmbpeaaDoorKTa
namespace Go.Proofs.YtibepnilhmbpeaaDoor
set_option linter.unusedVariables false
set_option linter.unusedSimpArgs false
open Go.RowKit Go.Shelf
/-- the marks of rangings that have ended -/
def Mks (B : Nat) (W : World) : List Deferred → Prop
  | [] => True
  | d :: r => (∃ D, d = { target := .collected D, args := #[] } ∧ B ≤ D ∧ W.heap[D]? = some (.deferred (some [])) ∧ ∀ e ∈ r, e.target ≠ .collected D) ∧ Mks B W r
theorem Mks.kept {B : Nat} {W W' : World} : ∀ {ds : List Deferred}, Mks B W ds → (∀ D, B ≤ D → W.heap[D]? = some (.deferred (some [])) → W'.heap[D]? = some (.deferred (some []))) → Mks B W' ds
  | [], _, _ => trivial
  | d :: r, h, hk => by
    obtain ⟨⟨D, h1, h2, h3, h4⟩, h5⟩ := h
    exact ⟨⟨D, h1, h2, hk D h2 h3, h4⟩, Mks.kept h5 hk⟩
theorem Mks.lt {B : Nat} {W : World} : ∀ {ds : List Deferred}, Mks B W ds → ∀ d ∈ ds, ∃ D, d.target = .collected D ∧ B ≤ D ∧ D < W.heap.size ∧ W.heap[D]? = some (.deferred (some []))
  | [], _, d, hd => by cases hd
  | d0 :: r, h, d, hd => by
    obtain ⟨⟨D, h1, h2, h3, h4⟩, h5⟩ := h
    rcases List.mem_cons.1 hd with rfl | hd
    · exact ⟨D, by rw [h1], h2, (Array.getElem?_eq_some_iff.1 h3).1, h3⟩
    · exact Mks.lt h5 d hd
theorem Mks.below {B : Nat} {W W' : World} {ds : List Deferred} (h : Mks B W ds) (hb : Below W.heap.size W W') : Mks B W' ds := h.kept (fun D _ hD => below_blk hb hD)
/-- one more -/
theorem Mks.push {B D : Nat} {W : World} {ds : List Deferred} (h : Mks B W ds) (hB : B ≤ D) (hD : W.heap[D]? = some (.deferred (some []))) (hn : ∀ e ∈ ds, e.target ≠ .collected D) : Mks B W ({ target := .collected D, args := #[] } :: ds) := ⟨⟨D, rfl, hB, hD, hn⟩, h⟩
/-- what the marks' leaving makes of memory -/
structure Lft (B : Nat) (W W' : World) : Prop where
  os : W'.os = W.os
  tape : W'.tape = W.tape
  output : W'.output = W.output
  size : W'.heap.size = W.heap.size
  old : ∀ j, j < B → W'.heap[j]? = W.heap[j]?
  cells : ∀ (j : Nat) (C : Array Value) (t : TypeId) (fr : Nat × Nat), W.heap[j]? = some (.cells C t fr) → W'.heap[j]? = some (.cells C t fr)
theorem Lft.below {B : Nat} {w W W' : World} (h : Lft B W W') (hb : Below w.heap.size w W) (hB : w.heap.size ≤ B) : Below w.heap.size w W' :=
  ⟨h.os.trans hb.os, h.tape.trans hb.tape, h.output.trans hb.output, by rw [h.size]; exact hb.size, fun j hj => (h.old j (by omega)).trans (hb.block j hj)⟩
theorem leaves_marks {F : Fence} {n : Nat} {P : Program} {fn : Func} {tmps : Array Value} {R : Ending → World → Prop} {B : Nat} : ∀ (ds : List Deferred) (W : World), Mks B W ds → (∀ W', Lft B W W' → LeavesIn F n P fn tmps R [] .returning W') → LeavesInM F n P fn tmps R ds .returning W
  | [], W, _, h => h W ⟨rfl, rfl, rfl, rfl, fun _ _ => rfl, fun _ _ _ _ h => h⟩
  | d :: r, W, hm, h => by
    obtain ⟨⟨D, rfl, h2, h3, h4⟩, h5⟩ := hm
    refine ⟨by simp, .inl ⟨D, _, rfl, run_takeDeferred h3, ?_⟩⟩
    refine leaves_marks (B := B) r _ ?_ (fun W' hW => h W' ?_)
    · have go : ∀ {ds : List Deferred}, Mks B W ds → (∀ e ∈ ds, e.target ≠ .collected D) → Mks B (W.putObj D (.deferred none)) ds := fun {ds} => by
        induction ds with
        | nil => intro _ _; trivial
        | cons d r ih =>
          rintro ⟨⟨D2, rfl, k2, k3, k4⟩, k5⟩ hn
          exact ⟨⟨D2, rfl, k2, (World.putObj_heap_other (fun e => hn _ (List.mem_cons_self ..) (by rw [e]))).trans k3, k4⟩, ih k5 (fun e he => hn e (List.mem_cons_of_mem _ he))⟩
      exact go h5 h4
    · refine ⟨hW.os, hW.tape, hW.output, by rw [hW.size]; simp, fun j hj => (hW.old j hj).trans (World.putObj_heap_other (by omega)), fun j C t fr hj => hW.cells j C t fr ((World.putObj_heap_other (fun e => ?_)).trans hj)⟩
      rw [e, h3] at hj
      cases hj
end Go.Proofs.YtibepnilhmbpeaaDoor
