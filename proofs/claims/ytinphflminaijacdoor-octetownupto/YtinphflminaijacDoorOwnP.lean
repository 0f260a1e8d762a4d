import Derived.Test.YtinphflminaijacDoorAsks
namespace Go.Proofs.YtinphflminaijacDoor
set_option linter.unusedVariables false
set_option linter.unusedSimpArgs false
open Go.RowKit
def strV (l : List UInt8) : Value := .string ⟨l.toArray⟩
def famOf (va vw : Value) (vs : List Value) (ps : List (Value × List UInt8)) (ws : List (List UInt8)) : List Row :=
  ⟨25, va, vs⟩ :: ⟨9, vw, ws.map strV⟩ :: ps.map fun p => bRow p.1 p.2
/-- all answers, what they should be, each in memory of its own -/
structure St (W w : World) (va vw : Value) (ps : List (Value × List UInt8)) (ws : List (List UInt8)) : Prop where
  fam : Fam w W.heap.size (famOf va vw (ps.map (·.1)) ps ws)
  bel : Below W.heap.size W w
theorem St.below {W w w' : World} {va vw : Value} {ps : List (Value × List UInt8)} {ws : List (List UInt8)} (h : St W w va vw ps ws) (hb : Below w.heap.size w w') : St W w' va vw ps ws :=
  ⟨h.fam.below hb, below_next h.bel hb⟩
theorem famOf_len (va vw : Value) (vs : List Value) (ps : List (Value × List UInt8)) (ws : List (List UInt8)) : (famOf va vw vs ps ws).length = ps.length + 2 := by simp [famOf]
theorem famOf_at (va vw : Value) (vs : List Value) (ps : List (Value × List UInt8)) (ws : List (List UInt8)) (i : Nat) (hi : i < ps.length) (h : i + 2 < (famOf va vw vs ps ws).length) : (famOf va vw vs ps ws)[i + 2] = bRow ps[i].1 ps[i].2 := by simp [famOf]
theorem St.own {W w : World} {va vw : Value} {ps : List (Value × List UInt8)} {ws : List (List UInt8)} (h : St W w va vw ps ws) (i : Nat) (hi : i < ps.length) : Own w W.heap.size ps[i].1 ps[i].2 := by
  have h1 := h.fam.own (i + 2) (by rw [famOf_len]; omega)
  rw [famOf_at _ _ _ _ _ i hi] at h1
  exact bRow_at.1 h1
theorem St.row {W w : World} {va vw : Value} {ps : List (Value × List UInt8)} {ws : List (List UInt8)} (h : St W w va vw ps ws) : w.ownsRow W.heap.size 25 1 va ps.length (ps.map (·.1)) := by
  have h1 := h.fam.own 0 (by rw [famOf_len]; omega)
  have h2 : w.ownsRow W.heap.size 25 1 va (ps.map (·.1)).length (ps.map (·.1)) := h1
  rwa [List.length_map] at h2
theorem St.want {W w : World} {va vw : Value} {ps : List (Value × List UInt8)} {ws : List (List UInt8)} (h : St W w va vw ps ws) : w.ownsRow W.heap.size 9 1 vw ws.length (ws.map strV) := by
  have h1 := h.fam.own 1 (by rw [famOf_len]; omega)
  have h2 : w.ownsRow W.heap.size 9 1 vw (ws.map strV).length (ws.map strV) := h1
  rwa [List.length_map] at h2
theorem St.cell {W w : World} {G n cap : Nat} {vw : Value} {ps : List (Value × List UInt8)} {ws : List (List UInt8)} (h : St W w (.slice (some ⟨G, 0, none⟩) n cap) vw ps ws) (hn : n = ps.length) (i : Nat) (hi : i < ps.length) : w.cell? ⟨G, i, none⟩ = some ps[i].1 := by
  subst hn
  rw [World.ownsRow.cellAt h.row i (by omega)]
  simp [hi]
theorem St.wcell {W w : World} {G n cap : Nat} {va : Value} {ps : List (Value × List UInt8)} {ws : List (List UInt8)} (h : St W w va (.slice (some ⟨G, 0, none⟩) n cap) ps ws) (hn : n = ws.length) (i : Nat) (hi : i < ws.length) : w.cell? ⟨G, i, none⟩ = some (strV ws[i]) := by
  subst hn
  rw [World.ownsRow.cellAt h.want i (by omega)]
  simp [hi]
theorem St.mark {W w : World} {va vw : Value} {ps : List (Value × List UInt8)} {ws : List (List UInt8)} (h : St W w va vw ps ws) (i : Nat) (hi : i < ps.length) (g n c : Nat) (ys : List UInt8) (hp : ps[i] = (.slice (some ⟨g, 0, none⟩) n c, ys)) (hn : n = ys.length) (j : Nat) (b : UInt8) (z : Int) (hz : z = (b.toNat : Int)) :
    St W (w.setCell ⟨g, j, none⟩ (.int .u8 z)) va vw (ps.set i (.slice (some ⟨g, 0, none⟩) n c, ys.set j b)) ws := by
  have h0 := h.own i hi
  rw [hp] at h0
  simp only at h0
  subst hn
  have h1 := own_set h0 j b z hz
  have hW := (World.ownsRow.lt h0 g rfl).1
  refine ⟨?_, h.bel.grown h1.2 h.bel.size (fun k hk => by cases hk; exact hW)⟩
  have hat := famOf_at va vw (ps.map (·.1)) ps ws i hi (by rw [famOf_len]; omega)
  rw [hp] at hat
  have h2 := h.fam.step (i + 2) (by rw [famOf_len]; omega) (w' := w.setCell ⟨g, j, none⟩ (.int .u8 z)) (by rw [hat]; exact h1.2) (bRow (.slice (some ⟨g, 0, none⟩) ys.length c) (ys.set j b)) (bRow_at.2 h1.1) (.inl (by rw [hat]; rfl))
  have e : (famOf va vw (ps.map (·.1)) ps ws).set (i + 2) (bRow (.slice (some ⟨g, 0, none⟩) ys.length c) (ys.set j b)) = famOf va vw ((ps.set i (.slice (some ⟨g, 0, none⟩) ys.length c, ys.set j b)).map (·.1)) (ps.set i (.slice (some ⟨g, 0, none⟩) ys.length c, ys.set j b)) ws := by
    unfold famOf
    rw [List.set_cons_succ, List.set_cons_succ, List.map_set, List.map_set]
    congr 2
    simp only
    have e1 : Value.slice (some ⟨g, 0, none⟩) ys.length c = (ps.map (·.1))[i]'(by simpa using hi) := by simp [hp]
    rw [e1, List.set_getElem_self]
  rw [e] at h2
  exact h2
theorem own_row {w : World} {B e : Nat} {v : Value} {n : Nat} {xs : List Value} (h : w.ownsRow B e 1 v n xs) (hn : xs.length = n) : (Row.mk e v xs).at w B := by
  unfold Row.at
  simp only
  rw [hn]
  exact h
/-- an answer grows, and its place among them is written -/
theorem St.grow {W w w' : World} {G n cap : Nat} {vw : Value} {ps : List (Value × List UInt8)} {ws : List (List UInt8)} (h : St W w (.slice (some ⟨G, 0, none⟩) n cap) vw ps ws) (hn : n = ps.length) (i : Nat) (hi : i < ps.length) (v : Value) (hv : ps[i].1 = v) (hg : w.grownBy w' v.ownBlock) (v' : Value) (l' : List UInt8) (ho : Own w' W.heap.size v' l') (hl : v'.ownBlock = v.ownBlock ∨ ∀ g, v'.ownBlock = some g → w.heap.size ≤ g) :
    (w'.cell? ⟨G, i, none⟩ = some v ∧ w'.frozen? ⟨G, i, none⟩ = false) ∧ St W (w'.setCell ⟨G, i, none⟩ v') (.slice (some ⟨G, 0, none⟩) n cap) vw (ps.set i (v', l')) ws := by
  subst hn hv
  have hat := famOf_at (.slice (some ⟨G, 0, none⟩) ps.length cap) vw (ps.map (·.1)) ps ws i hi (by rw [famOf_len]; omega)
  have hW := fun k hk => (World.ownsRow.lt (h.own i hi) k hk).1
  have hGW := (World.ownsRow.lt h.row G rfl).1
  have h2 := h.fam.step (i + 2) (by rw [famOf_len]; omega) (w' := w') (by rw [hat]; exact hg) (bRow v' l') (bRow_at.2 ho) (by rw [hat]; exact hl)
  have hb' : Below W.heap.size W w' := h.bel.grown hg h.bel.size hW
  have h3 : w'.ownsRow W.heap.size 25 1 (.slice (some ⟨G, 0, none⟩) ps.length cap) ps.length (ps.map (·.1)) := by
    have h4 := h2.own 0 (by rw [List.length_set, famOf_len]; omega)
    have h5 : w'.ownsRow W.heap.size 25 1 (.slice (some ⟨G, 0, none⟩) ps.length cap) (ps.map (·.1)).length (ps.map (·.1)) := h4
    rwa [List.length_map] at h5
  refine ⟨⟨?_, World.ownsRow.frozenAt h3 i⟩, ?_⟩
  · rw [World.ownsRow.cellAt h3 i (by omega)]
    simp [hi]
  · have h6 := World.ownsRow.stored h3 i v'
    refine ⟨?_, hb'.grown h6.2 hb'.size (fun k hk => by cases hk; exact hGW)⟩
    have h7 := h2.step 0 (by rw [List.length_set, famOf_len]; omega) (w' := w'.setCell ⟨G, i, none⟩ v') h6.2 ⟨25, .slice (some ⟨G, 0, none⟩) ps.length cap, (ps.map (·.1)).set i v'⟩ (own_row h6.1 (by simp)) (.inl rfl)
    have e : ((famOf (.slice (some ⟨G, 0, none⟩) ps.length cap) vw (ps.map (·.1)) ps ws).set (i + 2) (bRow v' l')).set 0 ⟨25, .slice (some ⟨G, 0, none⟩) ps.length cap, (ps.map (·.1)).set i v'⟩ = famOf (.slice (some ⟨G, 0, none⟩) ps.length cap) vw ((ps.set i (v', l')).map (·.1)) (ps.set i (v', l')) ws := by
      unfold famOf
      rw [List.set_cons_succ, List.set_cons_succ, List.set_cons_zero, List.map_set, List.map_set]
    rw [e] at h7
    exact h7
/-- one more of what they should be -/
theorem St.more {W w w' : World} {va vw vw' : Value} {ps : List (Value × List UInt8)} {ws : List (List UInt8)} (h : St W w va vw ps ws) (s : List UInt8) (hg : w.grownBy w' vw.ownBlock) (ho : w'.ownsRow W.heap.size 9 1 vw' (ws.length + 1) (ws.map strV ++ [strV s])) (hl : vw'.ownBlock = vw.ownBlock ∨ ∀ g, vw'.ownBlock = some g → w.heap.size ≤ g) : St W w' va vw' ps (ws ++ [s]) := by
  have hW := fun k hk => (World.ownsRow.lt h.want k hk).1
  refine ⟨?_, h.bel.grown hg h.bel.size hW⟩
  have h2 := h.fam.step 1 (by rw [famOf_len]; omega) (w' := w') hg ⟨9, vw', ws.map strV ++ [strV s]⟩ (own_row ho (by simp)) hl
  have e : (famOf va vw (ps.map (·.1)) ps ws).set 1 ⟨9, vw', ws.map strV ++ [strV s]⟩ = famOf va vw' (ps.map (·.1)) ps (ws ++ [s]) := by
    unfold famOf
    rw [List.set_cons_succ, List.set_cons_zero, List.map_append, List.map_cons, List.map_nil]
  rw [e] at h2
  exact h2
/-- more answers -/
theorem St.asks {W w w1 w2 : World} {va va' vw : Value} {ps qs : List (Value × List UInt8)} {ws : List (List UInt8)} (h : St W w va vw ps ws) (hb : Below w.heap.size w w1) (hq : Fam w1 w.heap.size (qs.map fun p => bRow p.1 p.2)) (hg : w1.grownBy w2 va.ownBlock) (ho : w2.ownsRow W.heap.size 25 1 va' (ps.length + qs.length) (ps.map (·.1) ++ qs.map (·.1))) (hl : va'.ownBlock = va.ownBlock ∨ ∀ g, va'.ownBlock = some g → w1.heap.size ≤ g) : St W w2 va' vw (ps ++ qs) ws := by
  have hW := fun k hk => (World.ownsRow.lt h.row k hk).1
  have hb1 := below_next h.bel hb
  refine ⟨?_, hb1.grown hg hb1.size hW⟩
  have h1 := h.fam.app hb h.bel.size hq
  have h2 := h1.step 0 (by rw [List.length_append, famOf_len]; omega) (w' := w2) hg ⟨25, va', ps.map (·.1) ++ qs.map (·.1)⟩ (own_row ho (by simp)) hl
  have e : (famOf va vw (ps.map (·.1)) ps ws ++ qs.map fun p => bRow p.1 p.2).set 0 ⟨25, va', ps.map (·.1) ++ qs.map (·.1)⟩ = famOf va' vw ((ps ++ qs).map (·.1)) (ps ++ qs) ws := by
    unfold famOf
    rw [List.cons_append, List.cons_append, List.set_cons_zero, List.map_append, List.map_append]
  rw [e] at h2
  exact h2
theorem St.start (W w : World) (hb : Below W.heap.size W w) : St W w (.slice none 0 0) (.slice none 0 0) [] [] := by
  refine ⟨⟨fun j hj => ?_, fun i j hi hj hne => ?_⟩, hb⟩
  · have hj' : j = 0 ∨ j = 1 := by simp [famOf] at hj; omega
    rcases hj' with rfl | rfl
    · exact World.ownsRow_nil _ _ _ _
    · exact World.ownsRow_nil _ _ _ _
  · have hi' : i = 0 ∨ i = 1 := by simp [famOf] at hi; omega
    rcases hi' with rfl | rfl
    · exact .inl rfl
    · exact .inl rfl
theorem infoS : (Tryd.prog.info? 25).map (fun i => (i.zero, i.size, i.bytes)) = some (some (.slice none 0 0), 1, 24) := by kernel_rfl
theorem infoT : (Tryd.prog.info? 9).map (fun i => (i.zero, i.size, i.bytes)) = some (some (.string ⟨#[]⟩), 1, 16) := by kernel_rfl
/-- append of elements of one cell to a row of the call's own -/
theorem wp_appG {w : World} {ops : Array Oper} {rest : List Oper} {o : Oper} {a : Act} {Q : Exit → Act → World → Prop} (hgd : o.guard = none) (s x : Operand) (t e : TypeId) (z : Value) (by_ : Nat)
    (ht : Tryd.prog.underlying t = some (.slice e)) (hinf : (Tryd.prog.info? e).map (fun i => (i.zero, i.size, i.bytes)) = some (some z, 1, by_)) (hz : z.cells.size = 1) (hby : by_ ≤ 24)
    (ho : o.op = .call { callee := .builtin .append, args := #[s, x], argTypes := #[t, t] }) (B : Nat) (v : Value) (n : Nat) (vs : List Value)
    (hs : a.eval s = v) (hown : w.ownsRow B e 1 v n vs) (g m c : Nat) (us : List Value) (hx : a.eval x = .slice (some ⟨g, 0, none⟩) m c) (hm : us.length = m) (hc : ∀ j (h : j < us.length), w.cell? ⟨g, j, none⟩ = some us[j]) (h1 : ∀ u ∈ us, u.oneCell' = true) (hm0 : 0 < m)
    (hb : n + m ≤ 1000) (hbase : B ≤ w.heap.size) (l : Nat) (hl : n + m = l)
    (h : ∀ G cap w', w'.ownsRow B e 1 (.slice (some ⟨G, 0, none⟩) l cap) l (vs ++ us) → w.grownBy w' v.ownBlock → (v.ownBlock = some G ∨ G = w.heap.size) → wpList Tryd.prog ops Q rest (a.put o.dst (.slice (some ⟨G, 0, none⟩) l cap)) w') : wpList Tryd.prog ops Q (o :: rest) a w := by
  obtain ⟨i0, hi, hz0, hz1, hz2⟩ := info_parts hinf
  subst hl
  refine wpList_append_lies w hgd s x t ho B e i0 z 1 by_ ht hi hz0 hz1 hz2 hz (by decide) v n vs hs hown ⟨g, 0, none⟩ m c us hx (by omega) ?_ h1 hm0 (by simp only [maxLen]; omega) ?_ hbase w.heap.size rfl ?_
  · intro j u hj
    obtain ⟨hlt, e⟩ := List.getElem?_eq_some_iff.1 hj
    rw [Go.WideShapes.add_plain, Nat.zero_add, hc j hlt, e]
  · have := Nat.mul_le_mul hb hby
    omega
  · intro G cap w' k1 k2 k3 _
    exact h G cap w' k1 k2 k3
end Go.Proofs.YtinphflminaijacDoor
