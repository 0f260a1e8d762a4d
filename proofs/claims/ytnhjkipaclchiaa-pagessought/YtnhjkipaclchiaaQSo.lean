import Derived.Test.YtnhjkipaclchiaaQAny
import Derived.Test.YtnhjkipaclchiaaWTight
import Derived.Maps.AppendAt
import Derived.Deep.CutRange
namespace Go.Proofs.Ytnhjkipaclchiaa
set_option linter.unusedVariables false
set_option linter.unusedSimpArgs false
open Go.RowKit Go.Shelf Go.Maps
theorem name_act {F : Fence} {n : Nat} {P : Program} {c : Code} {Q : Exit → Act → World → Prop} {t : Array Value} {d : List Deferred} {w : World} (h : ∀ T : Array Value, T = t → c.wpIn F n P Q { tmps := T, defers := d } w) : c.wpIn F n P Q { tmps := t, defers := d } w := h t rfl
theorem load_re (u : World) (b o : Nat) (e : Ent) (h : u.rangeAt b o (ev e)) : (Instr.loadAt tRe (.pointer (some ⟨b, o, none⟩))).run Try.prog u = .ok (ea e) u :=
  run_loadAt_mid u b o _ (ev e) _ h Try.underlying60 rfl info_re3
theorem OwnB.far {w w' : World} {B : Nat} {v : Value} {xs : List Ent} (h : OwnB w B v xs) (hb : ∀ b, v.ownBlock = some b → w'.heap[b]? = w.heap[b]?) : OwnB w' B v xs := by
  refine ⟨h.1, ?_⟩
  rcases h.2 with h0 | ⟨g, cap, cur, e, hB, hg, r⟩
  · exact .inl h0
  · exact .inr ⟨g, cap, cur, e, hB, (hb g (by rw [e]; rfl)).trans hg, r⟩
theorem OwnB.blk {w : World} {B : Nat} {v : Value} {xs : List Ent} (h : OwnB w B v xs) (b : Nat) (hb : v.ownBlock = some b) : B ≤ b ∧ b < w.heap.size ∧ ∃ cur, w.heap[b]? = some (.cells cur tRe (0, 0)) := by
  rcases h.2 with ⟨rfl, -⟩ | ⟨g, cap, cur, rfl, hB, hg, -⟩
  · cases hb
  · cases hb; exact ⟨hB, (Array.getElem?_eq_some_iff.1 hg).1, cur, hg⟩
theorem OwnB.sl {w : World} {B : Nat} {v : Value} {xs : List Ent} (h : OwnB w B v xs) : ∃ a c, v = .slice a xs.length c := by
  obtain ⟨a, c, h1, -⟩ := OwnB.val h; exact ⟨a, c, h1⟩
/-- append of entries onto a row of the call's own -/
theorem run_appE {w : World} (B : Nat) (ty : TypeId) (v : Value) (xs : List Ent) (hown : OwnB w B v xs) (x : Value) (us : List Ent)
    (hx : (x = .slice none 0 0 ∧ us = []) ∨ ∃ g cap, x = .slice (some ⟨g, 0, none⟩) us.length cap ∧ ∀ j u, (flatE us)[j]? = some u → w.cell? ⟨g, j, none⟩ = some u) (hl : xs.length + us.length ≤ 5000000000000) (hbase : B ≤ w.heap.size) :
    ∃ v' w', (Builtin.append_ #[tBk, tBk] ty #[v, x]).run Try.prog w = .ok v' w' ∧ OwnB w' B v' (xs ++ us) ∧ w.grownBy w' v.ownBlock ∧ (v'.ownBlock = v.ownBlock ∨ v'.ownBlock = some w.heap.size) := by
  obtain ⟨i, hi, hz0, hz1, hz2⟩ := info_parts info_re
  rcases hx with ⟨rfl, rfl⟩ | ⟨g, cap, rfl, hc⟩
  · exact ⟨v, w, run_append_owned_none w B tBk ty tRe i 3 Try.underlying52 hi v xs.length _ hown, by simpa using hown, World.grownBy.refl _ _, .inl rfl⟩
  · obtain ⟨v', w', hr, h2, h3, -, h5⟩ := run_append_own_at (P := Try.prog) w B tBk ty tRe i _ 3 24 Try.underlying52 hi hz0 hz1 hz2 rfl (by decide) v xs.length _ hown ⟨g, 0, none⟩ us.length cap (flatE us) (flatE_len us) (by
      intro j u hj
      rw [Go.WideShapes.add_plain, Nat.zero_add]
      exact hc j u hj) (flatE_one' us) (by simp only [maxLen]; omega) (by omega) hbase
    refine ⟨v', w', hr, ?_, h3, h5⟩
    unfold OwnB
    rw [List.length_append, flatE_app]
    exact h2
theorem wpo_runB {w : World} {o : Oper} {a : Act} {K' : Act → World → Prop} {Q : Exit → Act → World → Prop} (s y : Operand) (ho : o.op = .call { callee := .builtin .append, args := #[s, y], argTypes := #[tBk, tBk] })
    (v x : Value) (hs : a.eval s = v) (hy : a.eval y = x) (v' : Value) (w' : World) (hr : (Builtin.append_ #[tBk, tBk] o.type #[v, x]).run Try.prog w = .ok v' w') (h : K' (a.put o.dst v') w') : Oper.wp Try.prog o a w K' Q := by
  unfold Oper.wp execOp
  simp only [ho, resolve, invoke, builtin, Sem.run_bind, Sem.run_pure, Result.andThen_ok, List.map_toArray, List.map_cons, List.map_nil, hs, hy, hr]
  exact h
/-- the book parted: the boxes H and H + 1 of up and down, and their rows -/
structure Prt (w0 w : World) (H : Nat) (vu vd : Value) (U D : List Ent) : Prop where
  bel : Below H w0 w
  sz : H + 2 ≤ w.heap.size
  bu : w.heap[H]? = some (.cells #[vu] tBk (0, 0))
  bd : w.heap[H + 1]? = some (.cells #[vd] tBk (0, 0))
  ou : OwnB w (H + 2) vu U
  od : OwnB w (H + 2) vd D
  ap : ∀ b, vu.ownBlock = some b → vd.ownBlock ≠ some b
variable {w0 w w' : World} {H : Nat} {vu vd : Value} {U D : List Ent}
theorem Prt.below (h : Prt w0 w H vu vd U D) (hb : Below w.heap.size w w') : Prt w0 w' H vu vd U D :=
  ⟨h.bel.trans (hb.mono (by have := h.sz; omega)), Nat.le_trans h.sz hb.size, (hb.block H (by have := h.sz; omega)).trans h.bu, (hb.block (H + 1) (by have := h.sz; omega)).trans h.bd, OwnB.below h.ou hb, OwnB.below h.od hb, h.ap⟩
theorem Prt.cu (h : Prt w0 w H vu vd U D) : w.cell? ⟨H, 0, none⟩ = some vu := by rw [cell_of_row _ _ _ _ _ _ h.bu]; rfl
theorem Prt.cd (h : Prt w0 w H vu vd U D) : w.cell? ⟨H + 1, 0, none⟩ = some vd := by rw [cell_of_row _ _ _ _ _ _ h.bd]; rfl
theorem Prt.fu (h : Prt w0 w H vu vd U D) : w.frozen? ⟨H, 0, none⟩ = false := by simp [World.frozen?, h.bu]
theorem Prt.fd (h : Prt w0 w H vu vd U D) : w.frozen? ⟨H + 1, 0, none⟩ = false := by simp [World.frozen?, h.bd]
theorem flat_new {N : Nat} {e : Ent} (hN : w.heap[N]? = some (.cells #[.int .u64 (e.st.1 : Int), .int .u64 (e.st.2 : Int), .int .u64 (e.n : Int)] tRe (0, 0))) : ∀ j u, (flatE [e])[j]? = some u → w.cell? ⟨N, j, none⟩ = some u := fun j u hu => by
  rw [flatE_one] at hu
  rw [cell_of_row _ _ _ _ _ _ hN]
  simpa using hu
/-- up = append(up, e) -/
theorem wpo_appU {o : Oper} {a : Act} {K' : Act → World → Prop} {Q : Exit → Act → World → Prop} (s x : Operand) (ho : o.op = .call { callee := .builtin .append, args := #[s, x], argTypes := #[tBk, tBk] })
    (h : Prt w0 w H vu vd U D) (hs : a.eval s = vu) (N : Nat) (e : Ent) (hx : a.eval x = .slice (some ⟨N, 0, none⟩) 1 1) (hN : w.heap[N]? = some (.cells #[.int .u64 (e.st.1 : Int), .int .u64 (e.st.2 : Int), .int .u64 (e.n : Int)] tRe (0, 0)))
    (hl : U.length + 1 ≤ 5000000000000)
    (hk : ∀ (a' : Option Addr) (m c' : Nat) (w' : World), m = U.length + 1 → Below H w0 w' → Hid (Prt w0 (w'.setCell ⟨H, 0, none⟩ (.slice a' m c')) H (.slice a' m c') vd (U ++ [e]) D) → w'.cell? ⟨H, 0, none⟩ = some vu → w'.frozen? ⟨H, 0, none⟩ = false → K' (a.put o.dst (.slice a' m c')) w') : Oper.wp Try.prog o a w K' Q := by
  obtain ⟨v', w', hr, hown, hg, hb⟩ := run_appE (H + 2) o.type vu U h.ou (.slice (some ⟨N, 0, none⟩) 1 1) [e] (.inr ⟨N, 1, rfl, flat_new hN⟩) (by simpa using hl) h.sz
  obtain ⟨a', c', rfl⟩ := OwnB.sl hown
  rw [List.length_append, List.length_singleton] at hr hown hb
  have hnr : ∀ b, b < H + 2 → some b ≠ vu.ownBlock := fun b hb e => by have := (OwnB.blk h.ou b e.symm).1; omega
  have hH : w'.heap[H]? = some (.cells #[vu] tBk (0, 0)) := (hg.block H (by have := h.sz; omega) (hnr H (by omega))).trans h.bu
  have hH1 : w'.heap[H + 1]? = some (.cells #[vd] tBk (0, 0)) := (hg.block (H + 1) (by have := h.sz; omega) (hnr (H + 1) (by omega))).trans h.bd
  have hbw : Below H w0 w' := h.bel.grown hg (by have := h.sz; omega) (fun b e => by have := (OwnB.blk h.ou b e).1; omega)
  refine wpo_runB s x ho vu _ hs hx _ w' hr (hk a' (U.length + 1) c' w' rfl hbw ⟨?_, ?_, ?_, ?_, ?_, ?_, ?_⟩ (by rw [cell_of_row _ _ _ _ _ _ hH]; rfl) (by simp [World.frozen?, hH]))
  · exact hbw.setCell (p := ⟨H, 0, none⟩) (Nat.le_refl _) _
  · have := h.sz; have := hg.size; simp; omega
  · rw [heap_setCell_same w' H 0 _ _ _ hH]; rfl
  · rw [heap_setCell_other _ _ _ _ (by simp)]; exact hH1
  · exact OwnB.far hown (fun b e => heap_setCell_other _ _ _ _ (by have := (OwnB.blk hown b e).1; simp; omega))
  · refine OwnB.far h.od (fun b e => ?_)
    rw [heap_setCell_other _ _ _ _ (by have := (OwnB.blk h.od b e).1; simp; omega)]
    exact hg.block b (OwnB.blk h.od b e).2.1 (fun e2 => h.ap b e2.symm e)
  · intro b e1 e2
    rcases hb with hb | hb
    · rw [hb] at e1; exact h.ap b e1 e2
    · rw [hb] at e1; cases e1; have := (OwnB.blk h.od _ e2).2.1; omega
/-- down = append(book{e}, down...) -/
theorem wpo_appD {o : Oper} {a : Act} {K' : Act → World → Prop} {Q : Exit → Act → World → Prop} (s x : Operand) (ho : o.op = .call { callee := .builtin .append, args := #[s, x], argTypes := #[tBk, tBk] })
    (h : Prt w0 w H vu vd U D) (hx : a.eval x = vd) (N : Nat) (e : Ent) (hs : a.eval s = .slice (some ⟨N, 0, none⟩) 1 1) (hN : w.heap[N]? = some (.cells #[.int .u64 (e.st.1 : Int), .int .u64 (e.st.2 : Int), .int .u64 (e.n : Int)] tRe (0, 0)))
    (hNH : H + 2 ≤ N) (hNu : ∀ b, vu.ownBlock = some b → b ≠ N) (hl : D.length + 1 ≤ 5000000000000)
    (hk : ∀ (a' : Option Addr) (m c' : Nat) (w' : World), m = D.length + 1 → Below H w0 w' → Hid (Prt w0 (w'.setCell ⟨H + 1, 0, none⟩ (.slice a' m c')) H vu (.slice a' m c') U (e :: D)) → w'.cell? ⟨H + 1, 0, none⟩ = some vd → w'.frozen? ⟨H + 1, 0, none⟩ = false → K' (a.put o.dst (.slice a' m c')) w') : Oper.wp Try.prog o a w K' Q := by
  have ho1 : OwnB w (H + 2) (.slice (some ⟨N, 0, none⟩) 1 1) [e] := ⟨rfl, .inr ⟨N, 1, _, rfl, hNH, hN, Nat.le_refl _, by decide, rfl, by rw [flatE_one]; rfl⟩⟩
  obtain ⟨v', w', hr, hown, hg, hb⟩ := run_appE (H + 2) o.type (.slice (some ⟨N, 0, none⟩) 1 1) [e] ho1 vd D (by
    have h9 := h.od
    rcases h.od.2 with ⟨e, h0⟩ | ⟨g, cap, cur, rfl, r⟩
    · exact .inl ⟨e, List.eq_nil_of_length_eq_zero h0⟩
    · refine .inr ⟨g, cap, rfl, fun j u hj => ?_⟩
      rw [World.ownsRow.cellAt h9 j (by have := (List.getElem?_eq_some_iff.1 hj).1; rw [flatE_len] at this; omega)]
      exact hj) (by simp; omega) h.sz
  have ob : (Value.slice (some ⟨N, 0, none⟩) 1 1).ownBlock = some N := rfl
  rw [ob] at hg hb
  obtain ⟨a', c', rfl⟩ := OwnB.sl hown
  have hm : ([e] ++ D).length = D.length + 1 := by simp
  rw [hm] at hr hown hb
  have hH : w'.heap[H]? = some (.cells #[vu] tBk (0, 0)) := (hg.block H (by have := h.sz; omega) (fun e => by cases e; omega)).trans h.bu
  have hH1 : w'.heap[H + 1]? = some (.cells #[vd] tBk (0, 0)) := (hg.block (H + 1) (by have := h.sz; omega) (fun e => by cases e; omega)).trans h.bd
  have hbl : ∀ b, (Value.slice a' (D.length + 1) c').ownBlock = some b → b = N ∨ b = w.heap.size := fun b e1 => by
    rcases hb with hb | hb
    · rw [hb] at e1; cases e1; exact .inl rfl
    · rw [hb] at e1; cases e1; exact .inr rfl
  have hbw : Below H w0 w' := h.bel.grown hg (by have := h.sz; omega) (fun b e => by cases e; omega)
  refine wpo_runB s x ho _ vd hs hx _ w' hr (hk a' (D.length + 1) c' w' rfl hbw ⟨?_, ?_, ?_, ?_, ?_, ?_, ?_⟩ (by rw [cell_of_row _ _ _ _ _ _ hH1]; rfl) (by simp [World.frozen?, hH1]))
  · exact hbw.setCell (p := ⟨H + 1, 0, none⟩) (Nat.le_succ _) _
  · have := h.sz; have := hg.size; simp; omega
  · rw [heap_setCell_other _ _ _ _ (by simp)]; exact hH
  · rw [heap_setCell_same w' (H + 1) 0 _ _ _ hH1]; rfl
  · refine OwnB.far h.ou (fun b e => ?_)
    rw [heap_setCell_other _ _ _ _ (by have := (OwnB.blk h.ou b e).1; simp; omega)]
    exact hg.block b (OwnB.blk h.ou b e).2.1 (fun e2 => hNu b e (by cases e2; rfl))
  · exact OwnB.far hown (fun b e => heap_setCell_other _ _ _ _ (by have := (OwnB.blk hown b e).1; simp; omega))
  · intro b e1 e2
    rcases hbl b e2 with rfl | rfl
    · exact hNu _ e1 rfl
    · have := (OwnB.blk h.ou _ e1).2.1; omega
/-- what the loop has put into up and down of the first entries -/
def upB (l : List Ent) (s : St) : List Ent := l.filter (fun x => !ltS x.st s)
def dnB (l : List Ent) (s : St) : List Ent := (l.filter (fun x => !ltS s x.st)).reverse
theorem upB_len (l : List Ent) (s : St) : (upB l s).length ≤ l.length := List.length_filter_le _ _
theorem dnB_len (l : List Ent) (s : St) : (dnB l s).length ≤ l.length := by unfold dnB; rw [List.length_reverse]; exact List.length_filter_le _ _
theorem upB_snoc (l : List Ent) (x : Ent) (s : St) : upB (l ++ [x]) s = upB l s ++ if ltS x.st s then [] else [x] := by
  unfold upB
  rw [List.filter_append]
  congr 1
  cases h : ltS x.st s <;> simp [h]
theorem dnB_snoc (l : List Ent) (x : Ent) (s : St) : dnB (l ++ [x]) s = (if ltS s x.st then [] else [x]) ++ dnB l s := by
  unfold dnB
  rw [List.filter_append, List.reverse_append]
  congr 1
  cases h : ltS s x.st <;> simp [h]
/-- what is settled behind the parting -/
structure Sit (W : World) (B0 G S H : Nat) (P : List (List Ent)) (v : Value) (vs : List Value) (s1 s2 : Nat) (vu vd vb : Value) (U D L : List Ent) : Prop where
  bs : W.heap[B0]? = some (.cells #[.int .u64 (s1 : Int), .int .u64 (s2 : Int)] tSt (0, 0))
  br : W.heap[B0 + 1]? = some (.cells #[.bool false] 4 (0, 0))
  idx : IdxAt W G S P v vs
  bu : W.heap[H]? = some (.cells #[vu] tBk (0, 0))
  bd : W.heap[H + 1]? = some (.cells #[vd] tBk (0, 0))
  ru : OwnB W 0 vu U
  rd : OwnB W 0 vd D
  rb : OwnB W 0 vb L
/-- a box of stamps or of a number, other than that of s -/
def Fee (B0 : Nat) (w : World) (b : Nat) : Prop := b ≠ B0 ∧ ∃ cur t fr, w.heap[b]? = some (.cells cur t fr) ∧ (t = tSt ∨ t = 3)
variable {B0 G S : Nat} {P : List (List Ent)} {v vb : Value} {vs : List Value} {s1 s2 : Nat} {L : List Ent}
theorem Fee.not {b : Nat} {cur : Array Value} {t : TypeId} {fr : Nat × Nat} (h : Fee B0 w b) (hb : w.heap[b]? = some (.cells cur t fr)) (h1 : t ≠ tSt) (h2 : t ≠ 3) : False := by
  obtain ⟨-, cur', t', fr', h3, h4⟩ := h
  rw [hb] at h3
  injection h3 with h3
  injection h3 with e1 e2 e3
  subst e2
  rcases h4 with h4 | h4
  · exact h1 h4
  · exact h2 h4
theorem Sit.far {F : Nat → Prop} (h : Sit w B0 G S H P v vs s1 s2 vu vd vb U D L) (hc : Chg F w w') (hF : ∀ b, F b → Fee B0 w b) : Sit w' B0 G S H P v vs s1 s2 vu vd vb U D L := by
  have kp : ∀ {b : Nat} {cur : Array Value} {t : TypeId} {fr : Nat × Nat}, w.heap[b]? = some (.cells cur t fr) → t ≠ tSt → t ≠ 3 → w'.heap[b]? = some (.cells cur t fr) := fun hb h1 h2 => (hc.block _ (Array.getElem?_eq_some_iff.1 hb).1 (fun hf => (hF _ hf).not hb h1 h2)).trans hb
  have bk : ∀ {x : Value} {xs : List Ent}, OwnB w 0 x xs → OwnB w' 0 x xs := fun hx => OwnB.far hx (fun b e => by
    obtain ⟨-, h1, cur, h2⟩ := OwnB.blk hx b e
    rw [kp h2 (by decide) (by decide), h2])
  refine ⟨(hc.block _ (Array.getElem?_eq_some_iff.1 h.bs).1 (fun hf => (hF _ hf).1 rfl)).trans h.bs, kp h.br (by decide) (by decide), ?_, kp h.bu (by decide) (by decide), kp h.bd (by decide) (by decide), bk h.ru, bk h.rd, bk h.rb⟩
  refine h.idx.kept hc (fun b hb hf => ?_) (fun b hf => ?_)
  · rcases hb with rfl | hb
    · exact (hF _ hf).not h.idx.hd (by decide) (by decide)
    · obtain ⟨cur, h9⟩ := h.idx.rowBlk b hb
      exact (hF _ hf).not h9 (by decide) (by decide)
  · obtain ⟨-, cur, t, fr, h1, h2⟩ := hF b hf
    refine ⟨cur, t, fr, h1, ?_⟩
    rcases h2 with rfl | rfl <;> decide
theorem Sit.below (h : Sit w B0 G S H P v vs s1 s2 vu vd vb U D L) (hb : Below w.heap.size w w') : Sit w' B0 G S H P v vs s1 s2 vu vd vb U D L := h.far (F := fun _ => False) (Chg.of_below hb) (fun _ hf => hf.elim)
theorem Sit.ls (h : Sit w B0 G S H P v vs s1 s2 vu vd vb U D L) : (Instr.loadAt tSt (.pointer (some ⟨B0, 0, none⟩))).run Try.prog w = .ok (sv (s1, s2)) w := load_st w _ _ (s1, s2) (box_range h.bs)
theorem Sit.rs (h : Sit w B0 G S H P v vs s1 s2 vu vd vb U D L) : w.rangeAt B0 0 (sc (s1, s2)) := box_range h.bs
theorem Sit.cu (h : Sit w B0 G S H P v vs s1 s2 vu vd vb U D L) : w.cell? ⟨H, 0, none⟩ = some vu := by rw [cell_of_row _ _ _ _ _ _ h.bu]; rfl
theorem Sit.cd (h : Sit w B0 G S H P v vs s1 s2 vu vd vb U D L) : w.cell? ⟨H + 1, 0, none⟩ = some vd := by rw [cell_of_row _ _ _ _ _ _ h.bd]; rfl
theorem Sit.lt (h : Sit w B0 G S H P v vs s1 s2 vu vd vb U D L) : B0 < w.heap.size ∧ H + 1 < w.heap.size := ⟨(Array.getElem?_eq_some_iff.1 h.bs).1, (Array.getElem?_eq_some_iff.1 h.bd).1⟩
/-- a ranging's state: the world z at its beginning, the box X of the count -/
structure Rng (z V : World) (X B1 : Nat) (Z : BlkS) (k : Nat) : Prop where
  g : z.grownBy V (some X)
  x : V.heap[X]? = some (.cells #[.int .i64 (k : Int)] 3 (0, 0))
  nx : ¬ Z X
  nr : ¬ Z B1
  zl : ∀ j, Z j → j < V.heap.size
variable {z V V' : World} {X B1 k : Nat} {Z : BlkS}
theorem Rng.grow {row : Option Nat} (h : Rng z V X B1 Z k) (hB : B1 < z.heap.size) (hg : V.grownBy V' row) (hr : ∀ r, row = some r → z.heap.size ≤ r ∧ ∃ o : Obj, V.heap[r]? = some o ∧ o.isCells = false) : Rng z V' X B1 (fun j => Z j ∨ (V.heap.size ≤ j ∧ j < V'.heap.size)) k := by
  have hX := (Array.getElem?_eq_some_iff.1 h.x).1
  refine ⟨⟨hg.os.trans h.g.os, hg.tape.trans h.g.tape, hg.output.trans h.g.output, Nat.le_trans h.g.size hg.size, fun j hj hn => (hg.block j (by have := h.g.size; omega) (fun e => ?_)).trans (h.g.block j hj hn)⟩, heap_kept h.x hg (fun r e => (hr r e).2), ?_, ?_, ?_⟩
  · have := (hr j e.symm).1; omega
  · rintro (hz | ⟨hz, -⟩)
    · exact h.nx hz
    · omega
  · rintro (hz | ⟨hz, -⟩)
    · exact h.nr hz
    · have := h.g.size; omega
  · rintro j (hz | ⟨-, hz⟩)
    · exact Nat.lt_of_lt_of_le (h.zl j hz) hg.size
    · exact hz
theorem Rng.less {Z' : BlkS} (h : Rng z V X B1 Z k) (hz : ∀ j, Z' j → Z j) : Rng z V X B1 Z' k := ⟨h.g, h.x, fun h9 => h.nx (hz _ h9), fun h9 => h.nr (hz _ h9), fun j hj => h.zl j (hz j hj)⟩
theorem Rng.alloc (h : Rng z V X B1 Z k) (hB : B1 < z.heap.size) (o : Obj) : Rng z (V.alloc o) X B1 Z k := (h.grow hB (World.grownBy_alloc V o none) (fun r e => by cases e)).less (fun j hj => .inl hj)
theorem Rng.init (hx : z.heap[X]? = some (.cells #[.int .i64 0] 3 (0, 0))) (hr : z.heap[B1]? = some (.cells #[.bool false] 4 (0, 0))) : Rng z z X B1 (EntB z) 0 := by
  refine ⟨World.grownBy.refl _ _, hx, ?_, ?_, fun j hj => hj.1⟩
  · rintro ⟨-, cur, fr, h9⟩
    rw [hx] at h9; injection h9 with h9; injection h9 with h7 h8; exact absurd h8 (by decide)
  · rintro ⟨-, cur, fr, h9⟩
    rw [hr] at h9; injection h9 with h9; injection h9 with h7 h8; exact absurd h8 (by decide)
theorem Rng.step (h : Rng z V X B1 Z k) (u : World) (hu : u = (V.setCell ⟨X, 0, none⟩ (.int .i64 ((k : Int) + 1))).drew) : KeepsFrom z.heap.size V u ∧ KeepZ Z V u ∧ Rng z u X B1 Z (k + 1) := by
  have k1 : KeepsOthers V u := by rw [hu]; exact (KeepsOthers.setCell _ _ _).trans (KeepsOthers.drew _)
  refine ⟨k1.from _, fun j hj => ?_, ⟨?_, ?_, ?_, ?_, ?_⟩, ?_, h.nx, h.nr, fun j hj => ?_⟩
  · rw [hu]; exact heap_setCell_other V ⟨X, 0, none⟩ j _ (fun e => h.nx (by simp at e; rw [e] at hj; exact hj))
  · rw [hu]; exact h.g.os
  · rw [hu]; exact h.g.tape
  · rw [hu]; exact h.g.output
  · rw [hu]; have := h.g.size; simp; exact this
  · intro j hj hn
    rw [hu, heap_drew, heap_setCell_other V ⟨X, 0, none⟩ j _ (fun e => hn (by simp at e; rw [e]))]
    exact h.g.block j hj hn
  · rw [hu, heap_drew, heap_setCell_same V X 0 _ _ _ h.x, show ((k + 1 : Nat) : Int) = (k : Int) + 1 by omega]; rfl
  · have := h.zl j hj; rw [hu]; simp; exact this
theorem Rng.ret (h : Rng z V X B1 Z k) (u : World) (hu : u = (V.setCell ⟨B1, 0, none⟩ (.bool false)).drew) : KeepsFrom z.heap.size V u ∧ KeepZ Z V u := by
  have k1 : KeepsOthers V u := by rw [hu]; exact (KeepsOthers.setCell _ _ _).trans (KeepsOthers.drew _)
  refine ⟨k1.from _, fun j hj => ?_⟩
  rw [hu]; exact heap_setCell_other V ⟨B1, 0, none⟩ j _ (fun e => h.nr (by simp at e; rw [e] at hj; exact hj))
theorem Rng.bel (h : Rng z V X B1 Z k) {E : Nat} {w6 : World} (hz : Below E w6 z) (hE : E ≤ X) (hEz : E ≤ z.heap.size) : Below E w6 V :=
  hz.trans ⟨h.g.os, h.g.tape, h.g.output, h.g.size, fun j hj => h.g.block j (by omega) (fun e => by cases e; omega)⟩
theorem below_row {E : Nat} {a b : World} (h : Below E a b) (hE : E ≤ X) (cs : Array Value) : Below E a (b.setRow X cs) :=
  ⟨h.os, h.tape, h.output, by have := h.size; simp; omega, fun j hj => (setRow_other b X j cs (by omega)).trans (h.block j hj)⟩
theorem fold2 (p0 p1 : Tmp) (x : Ent) (t : Array Value) : ((#[p0, p1] : Array Tmp).zip (encU x)).foldl (fun t (p, v) => t.setIfInBounds p v) t = (t.setIfInBounds p0 (sv x.st)).setIfInBounds p1 x.v := by
  have e : (#[p0, p1] : Array Tmp).zip (encU x) = #[(p0, sv x.st), (p1, x.v)] := by simp [encU, Array.zip, ← Array.toList_inj]
  rw [e]
  simp
end Go.Proofs.Ytnhjkipaclchiaa
