import Derived.Test.YtnfikcegmicooabDoorLwH
namespace Go.Proofs.YtnfikcegmicooabDoor
set_option linter.unusedVariables false
set_option linter.unusedSimpArgs false
open Go.RowKit Go.Maps Go.Shelf
theorem adv_len {N l : Nat} {L T : List Tm} (h : AdvA L N l T) : T.length ≤ L.length := by
  unfold AdvA at h
  by_cases hx : N < min l mxN
  · rw [if_pos hx] at h
    exact sub_len (sorted_nd h.1) (fun t h8 => ((h.2 t).1 h8).1)
  · rw [if_neg hx] at h
    rw [h]
    exact Nat.zero_le _
theorem upd_id {α : Type} (f : Nat → α) (i : Nat) : upd f i (f i) = f := by
  funext j
  by_cases e : j = i
  · subst e; rw [upd_same]
  · rw [upd_other _ e]
section
variable {B : Nat} {w w' : World} {g1 g2 : Nat} {p m q N S : Nat → Nat} {L : Nat → List Tm} {V : Nat → Nat → Nat → Value} {v : Nat → Value} {N' : Nat → Nat} {L' : Nat → List Tm} {tv wv : Value} {vs us : List Value} {Ds Es : List (List Int)}
theorem Tl.nil (B : Nat) (w : World) : Tl B w (.slice none 0 0) (.slice none 0 0) [] [] [] [] :=
  ⟨World.ownsRow_nil _ _ _ _, World.ownsRow_nil _ _ _ _, fun b e => (by cases e), rfl, rfl, fun j hj => (by cases hj), fun j hj => (by cases hj), List.Pairwise.nil, fun D hD => (by cases hD)⟩
theorem own_adv (h : Pq B w g1 g2 p m q N S L V v N' L') (hT : Tl B w tv wv vs us Ds Es) {i : Nat} (hi : i < 2) (x : Nat) (hL : (L i).length ≤ 4398046511103) :
    Calls Tryd.prog 10 #[.pointer (some ⟨p i, 0, none⟩), .int .u64 (x : Int)] w fun e w' => ∃ az nz cz D V1, e = .returned (.slice az nz cz) ∧ AdvA (L i) (N i) x D ∧ OwnZ w' B (.slice az nz cz) (D.map Tm.id) ∧ (∀ y, y ∈ vs → apI y (.slice az nz cz)) ∧ Pq B w' g1 g2 p m q (upd N i (max (N i) (min x mxN))) S (upd L i (advL (L i) (N i) x)) (upd V i V1) v N' L' ∧ Tl B w' tv wv vs us Ds Es ∧ Below B w w' := by
  refine Calls.mono (both_adv (h.wt i hi) x hL h.tab) ?_
  rintro e w4 ⟨z4, D4, V4, rfl, hD4, hz4, h4, hst4⟩
  have hst := Pq.step h hi h4 (RfW.stW (h.rf i hi) (h.wt i hi) hst4) (PSt.ofW hst4 (q i) (v i))
  rw [upd_id, upd_id, upd_id, upd_id] at hst
  have hTL := Tl.st hT h hi (PSt.ofW hst4 (q i) (v i)).chg
  obtain ⟨a, c, rfl, -⟩ := OwnZ.rd hz4
  refine ⟨_, _, _, D4, V4, rfl, hD4, ⟨hz4.1, hz4.2.imp id (fun ⟨g, cap, cur, h1, h2, h3⟩ => ⟨g, cap, cur, h1, Nat.le_trans h.le h2, h3⟩)⟩, fun y hy b h1 h2 => ?_, hst.1, hTL, hst.2⟩
  obtain ⟨j, hj, rfl⟩ := List.getElem_of_mem hy
  have h5 := (World.ownsRow.lt (hT.ov j hj (by rw [← hT.lv]; exact hj)) b h1).2
  have h6 := (World.ownsRow.lt hz4 b h2).1
  omega
theorem own_radv (h : Pq B w g1 g2 p m q N S L V v N' L') (hT : Tl B w tv wv vs us Ds Es) {i s : Nat} (hi : i < 2) (ho : Ord (N' i) s (L' i)) (x : Nat) (hL : (L' i).length ≤ 4398046511103) :
    Calls Tryd.prog 11 #[.pointer (some ⟨q i, 0, none⟩), .int .u64 (x : Int)] w fun e w' => ∃ az nz cz D v1, e = .returned (.slice az nz cz) ∧ AdvA (L' i) (N' i) x D ∧ OwnZ w' B (.slice az nz cz) (D.map Tm.id) ∧ Pq B w' g1 g2 p m q N S L V (upd v i v1) (upd N' i (max (N' i) (min x mxN))) (upd L' i (advL (L' i) (N' i) x)) ∧ Tl B w' tv wv vs us Ds Es ∧ Below B w w' ∧ ∀ z zs, OwnZ w B z zs → OwnZ w' B z zs := by
  refine Calls.mono (both_radv (h.rf i hi) ho x hL) ?_
  rintro e w4 ⟨z4, D4, v4, rfl, hD4, hz4, h4, hst4⟩
  have hst := Pq.step h hi (Wt.stR (h.wt i hi) (h.rf i hi) hst4) h4 (PSt.ofR hst4 (p i) (m i) (V i))
  rw [upd_id, upd_id, upd_id, upd_id] at hst
  have hTL := Tl.st hT h hi (PSt.ofR hst4 (p i) (m i) (V i)).chg
  obtain ⟨a, c, rfl, -⟩ := OwnZ.rd hz4
  exact ⟨_, _, _, D4, v4, rfl, hD4, ⟨hz4.1, hz4.2.imp id (fun ⟨g, cap, cur, h1, h2, h3⟩ => ⟨g, cap, cur, h1, Nat.le_trans h.le h2, h3⟩)⟩, hst.1, hTL, hst.2, fun z zs hz => rowZ_kept hz (fun b hb => (PSt.ofR hst4 (p i) (m i) (V i)).chg.block b (World.ownsRow.lt hz b hb).2 (by obtain ⟨cur, e⟩ := rowI_blk hz b hb; exact h.noRow hi e (by decide)))⟩
theorem own_advM (h : Pq B w g1 g2 p m q N S L V v N' L') {i : Nat} (hi : i < 2) (hL : (L i).length ≤ 4398046511103) :
    Calls Tryd.prog 10 #[.pointer (some ⟨p i, 0, none⟩), .int .u64 281474976710655] w fun e w' => ∃ az nz cz D V1, e = .returned (.slice az nz cz) ∧ AdvA (L i) (N i) mxN D ∧ OwnZ w' B (.slice az nz cz) (D.map Tm.id) ∧ Pq B w' g1 g2 p m q (upd N i (max (N i) (min mxN mxN))) S (upd L i (advL (L i) (N i) mxN)) (upd V i V1) v N' L' ∧ Below B w w' := by
  have h1 := own_adv h (Tl.nil B w) hi mxN hL
  refine Calls.mono h1 ?_
  rintro e w' ⟨az, nz, cz, D, V1, h2, h3, h4, -, h5, -, h6⟩
  exact ⟨az, nz, cz, D, V1, h2, h3, h4, h5, h6⟩
theorem own_radvM (h : Pq B w g1 g2 p m q N S L V v N' L') {i s : Nat} (hi : i < 2) (ho : Ord (N' i) s (L' i)) (hL : (L' i).length ≤ 4398046511103) :
    Calls Tryd.prog 11 #[.pointer (some ⟨q i, 0, none⟩), .int .u64 281474976710655] w fun e w' => ∃ az nz cz D v1, e = .returned (.slice az nz cz) ∧ AdvA (L' i) (N' i) mxN D ∧ OwnZ w' B (.slice az nz cz) (D.map Tm.id) ∧ Pq B w' g1 g2 p m q N S L V (upd v i v1) (upd N' i (max (N' i) (min mxN mxN))) (upd L' i (advL (L' i) (N' i) mxN)) ∧ Below B w w' ∧ ∀ z zs, OwnZ w B z zs → OwnZ w' B z zs := by
  have h1 := own_radv h (Tl.nil B w) hi ho mxN hL
  refine Calls.mono h1 ?_
  rintro e w' ⟨az, nz, cz, D, v1, h2, h3, h4, h5, -, h6, h7⟩
  exact ⟨az, nz, cz, D, v1, h2, h3, h4, h5, h6, h7⟩
theorem Pq.grownL {n : Nat} {cs : List Value} {x : Value} (h : Pq B w g1 g2 p m q N S L V v N' L') (hr : w.ownsRow B tIs 1 x n cs) (hg : w.grownBy w' x.ownBlock) : Pq B w' g1 g2 p m q N S L V v N' L' :=
  h.rows (F := fun b => x.ownBlock = some b) (Chg.of_grown hg (fun _ e => e)) (fun b _ e => ⟨(World.ownsRow.lt hr b e).1, by obtain ⟨cur, e2⟩ := rowI_blk hr b e; exact ⟨cur, tIs, e2, .inr rfl⟩⟩)
/-- the lists that were told are written to and grown -/
theorem Pq.apart (h : Pq B w g1 g2 p m q N S L V v N' L') (hT : Tl B w tv wv vs us Ds Es) (hc : ChI (fun b => ∃ x ∈ vs, x.ownBlock = some b) w w') : Pq B w' g1 g2 p m q N S L V v N' L' ∧ Below B w w' := by
  have hb : ∀ b, (∃ x ∈ vs, x.ownBlock = some b) → B ≤ b ∧ ∃ (C : Array Value) (t : TypeId), w.heap[b]? = some (.cells C t (0, 0)) ∧ (t = tI ∨ t = tIs) := fun b ⟨x, hx, e⟩ => by
    obtain ⟨j, hj, rfl⟩ := List.getElem_of_mem hx
    have h1 := hT.ov j hj (by rw [← hT.lv]; exact hj)
    obtain ⟨cur, e2⟩ := rowI_blk h1 b e
    exact ⟨(World.ownsRow.lt h1 b e).1, cur, tI, e2, .inl rfl⟩
  have hc' : Chg (fun b => ∃ x ∈ vs, x.ownBlock = some b) w w' := ⟨hc.os, hc.tape, hc.output, hc.size, hc.block⟩
  exact ⟨h.rows hc' (fun b _ hf => hb b hf), hc'.below (fun b hf => (hb b hf).1) h.le⟩
end
end Go.Proofs.YtnfikcegmicooabDoor
