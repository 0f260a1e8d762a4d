import Derived.Test.YtibepnilhmbpeaaDoorSLi
import Derived.ArgAppend
namespace Go.Proofs.YtibepnilhmbpeaaDoor
set_option linter.unusedVariables false
set_option linter.unusedSimpArgs false
open Go.RowKit Go.Maps
/-! rows that may begin amid their block; a log with its row of starts of its own -/
section
variable {α : Type} {K : Kd α}
/-- a row of a sender's own, from some place of its block on -/
structure MidG (K : Kd α) (w : World) (v : Value) (xs : List α) : Prop where
  blk : ∀ b, v.ownBlock = some b → ∃ cur, w.heap[b]? = some (.cells cur K.t (0, 0))
  ex : (∃ a, v = .slice a 0 0 ∧ xs = []) ∨ ∃ g o c cur, v = .slice (some ⟨g, o, none⟩) xs.length c ∧ w.heap[g]? = some (.cells cur K.t (0, 0)) ∧ o + c * K.k ≤ cur.size ∧ xs.length ≤ c ∧ c ≤ maxLen ∧ RdG K w (some ⟨g, o, none⟩) xs
variable {w w' : World} {v : Value} {xs : List α}
theorem MidG.lt (h : MidG K w v xs) {b : Nat} (hb : v.ownBlock = some b) : b < w.heap.size := by
  obtain ⟨cur, h9⟩ := h.blk b hb
  exact (Array.getElem?_eq_some_iff.1 h9).1
theorem MidG.of_own {B : Nat} (h : OwnG K w B v xs) : MidG K w v xs := by
  refine ⟨fun b hb => h.at_ hb, ?_⟩
  have h' := h
  rcases h.2 with ⟨rfl, h0⟩ | ⟨g, cap, cur, rfl, hB, hg, hn, hm, hsz, -⟩
  · exact .inl ⟨none, rfl, List.eq_nil_of_length_eq_zero h0⟩
  · exact .inr ⟨g, 0, cap, cur, rfl, hg, by rw [Nat.zero_add, hsz]; exact Nat.le_refl _, hn, hm, OwnG.rd h'⟩
theorem rdG_kept {ao : Option Addr} (h : RdG K w ao xs) (hk : ∀ b o, ao = some ⟨b, o, none⟩ → w'.heap[b]? = w.heap[b]?) : RdG K w' ao xs := fun j hj => by
  obtain ⟨b, o, h1, h2, cur, fr, h3⟩ := h j hj
  have h9 := hk b o h1
  exact ⟨b, o, h1, fun i u hu => (World.cell?_of_block h9).trans (h2 i u hu), cur, fr, h9.trans h3⟩
theorem MidG.kept (h : MidG K w v xs) (hk : ∀ b, v.ownBlock = some b → w'.heap[b]? = w.heap[b]?) : MidG K w' v xs := by
  refine ⟨fun b hb => ?_, ?_⟩
  · obtain ⟨cur, h9⟩ := h.blk b hb
    exact ⟨cur, (hk b hb).trans h9⟩
  · rcases h.ex with h0 | ⟨g, o, c, cur, rfl, hg, h1, h2, h3, h4⟩
    · exact .inl h0
    · exact .inr ⟨g, o, c, cur, rfl, (hk g rfl).trans hg, h1, h2, h3, rdG_kept h4 (fun b o e => by cases e; exact hk _ rfl)⟩
theorem MidG.below (h : MidG K w v xs) (hb : Below w.heap.size w w') : MidG K w' v xs := h.kept (fun b e => hb.block b (h.lt e))
theorem MidG.val (h : MidG K w v xs) : ∃ a c, v = .slice a xs.length c ∧ xs.length ≤ c ∧ c ≤ maxLen ∧ RdG K w a xs := by
  rcases h.ex with ⟨a, rfl, rfl⟩ | ⟨g, o, c, cur, rfl, hg, h1, h2, h3, h4⟩
  · exact ⟨a, 0, rfl, Nat.le_refl _, Nat.zero_le _, RdG.nil _ _⟩
  · exact ⟨_, c, rfl, h2, h3, h4⟩
theorem MidG.one (h : MidG K w v xs) (h0 : 0 < xs.length) : ∃ g o c, v = .slice (some ⟨g, o, none⟩) xs.length c ∧ xs.length ≤ c ∧ c ≤ maxLen ∧ RdG K w (some ⟨g, o, none⟩) xs ∧ g < w.heap.size := by
  rcases h.ex with ⟨a, -, rfl⟩ | ⟨g, o, c, cur, rfl, hg, h1, h2, h3, h4⟩
  · simp at h0
  · exact ⟨g, o, c, rfl, h2, h3, h4, (Array.getElem?_eq_some_iff.1 hg).1⟩
theorem setCellsG (b : Nat) : ∀ (vs : List Value) (o : Nat) (w : World), w.grownBy (w.setCells b o vs) (some b)
  | [], _, w => ⟨rfl, rfl, rfl, Nat.le_refl _, fun _ _ _ => rfl⟩
  | x :: r, o, w => by
    have h1 := gset1 w b o x
    have h2 := setCellsG b r (o + 1) (w.setCell ⟨b, o, none⟩ x)
    exact ⟨h2.os.trans h1.os, h2.tape.trans h1.tape, h2.output.trans h1.output, Nat.le_trans h1.size h2.size, fun k hk hn => (h2.block k (Nat.lt_of_lt_of_le hk h1.size) hn).trans (h1.block k hk hn)⟩
theorem setCells_blk (b : Nat) (t : TypeId) : ∀ (vs : List Value) (o : Nat) (w : World) (C : Array Value), w.heap[b]? = some (.cells C t (0, 0)) → ∃ C', (w.setCells b o vs).heap[b]? = some (.cells C' t (0, 0)) ∧ C'.size = C.size
  | [], _, w, C, h => ⟨C, h, rfl⟩
  | x :: r, o, w, C, h => by
    obtain ⟨C', h1, h2⟩ := setCells_blk b t r (o + 1) (w.setCell ⟨b, o, none⟩ x) _ (heap_setCell_same w b o C t x h)
    exact ⟨C', h1, h2.trans (by simp)⟩
/-- one more at the end -/
theorem wpo_appM1 {o : Oper} {a : Act} {P : Act → World → Prop} {Q : Exit → Act → World → Prop} (s x : Operand)
    (ho : o.op = .call { callee := .builtin .append, args := #[s, x], argTypes := #[K.ts, K.ts] }) (v : Value) (xs : List α) (y : α) (n : Nat) (hn : n = xs.length) (ad : Addr) (cap : Nat)
    (hs : a.eval s = v) (hmid : MidG K w v xs) (hx : a.eval x = .slice (some ad) 1 cap) (hr : RdG K w (some ad) [y])
    (hb : (n + 1) * K.by_ ≤ 140737488355328) (hm : n + 1 ≤ maxLen)
    (h : ∀ v' w', MidG K w' v' (xs ++ [y]) → w.grownBy w' v.ownBlock → (∀ b, v'.ownBlock = some b → v.ownBlock = some b ∨ w.heap.size ≤ b) → P (a.put o.dst v') w') : o.wp Tryd.prog a w P Q := by
  subst hn
  obtain ⟨i0, hi, hz0, hz1, hz2⟩ := info_parts K.hi
  have hnl : (K.flat [y]).length = 1 * K.k := Kd.flat_len [y]
  have grow : ∀ v' w', (Builtin.append_ #[K.ts, K.ts] o.type #[v, .slice (some ad) 1 cap]).run Tryd.prog w = .ok v' w' → w'.ownsRow w.heap.size K.t K.k v' (xs.length + 1) (K.flat xs ++ K.flat [y]) → w.grownBy w' none → o.wp Tryd.prog a w P Q := fun v' w' hrun r1 r2 => by
    unfold Oper.wp
    simp [execOp, ho, resolve, invoke, builtin, hs, hx, hrun, Result.andThen]
    have r1' : OwnG K w' w.heap.size v' (xs ++ [y]) := by unfold OwnG; rw [List.length_append, Kd.flat_app]; exact r1
    exact h v' w' (MidG.of_own r1') ⟨r2.os, r2.tape, r2.output, r2.size, fun k hk _ => r2.block k hk (by simp)⟩ (fun b hb => .inr (r1'.lt' hb).1)
  rcases hmid.ex with ⟨a0, rfl, rfl⟩ | ⟨g, off, c, cur, rfl, hg, h1, h2, h3, h4⟩
  · cases a0 with
    | none =>
      obtain ⟨v', w', hrun, r1, r2, _⟩ := run_append_own (P := Tryd.prog) w w.heap.size K.ts o.type K.t i0 K.z K.k K.by_ K.ht hi hz0 hz1 hz2 K.hz K.hpos (.slice none 0 0) 0 [] (World.ownsRow_nil w _ K.t K.k) ad 1 cap (K.flat [y]) hnl hr.news (Kd.flat_one' [y]) hm hb (Nat.le_refl _)
      exact grow v' w' hrun r1 r2
    | some b =>
      obtain ⟨v', w', hrun, r1, r2⟩ := run_append_arg_grows (P := Tryd.prog) w K.ts o.type K.t i0 K.z K.k K.by_ K.ht hi hz0 hz1 hz2 K.hz K.hpos b 0 0 [] (by simp) (fun j u hj => by simp at hj) ad 1 cap (K.flat [y]) hnl hr.news (by omega) hm hb
      exact grow v' w' hrun r1 r2
  · by_cases hc : xs.length + 1 ≤ c
    · have hk1 : (xs.length + 1) * K.k ≤ c * K.k := Nat.mul_le_mul_right _ hc
      rw [Nat.succ_mul] at hk1
      have hthere : ∀ j, j < (K.flat [y]).length → (w.cell? ⟨g, off + xs.length * i0.size + j, none⟩).isSome = true := fun j hj => by
        rw [hz1, cell_of_row _ _ _ _ _ _ hg]
        rw [hnl] at hj
        rw [Array.getElem?_eq_getElem (by omega)]
        rfl
      have hrun := run_append_room_cells (P := Tryd.prog) w K.ts o.type K.t i0 K.ht hi g off xs.length c ad 1 cap (K.flat [y]) (by rw [hz1]; exact hnl) hr.news (Kd.flat_one' [y]) hc hthere (fun j hj => by simp [World.frozen?, hg])
      rw [hz1] at hrun hthere
      unfold Oper.wp
      simp [execOp, ho, resolve, invoke, builtin, hs, hx, hrun, Result.andThen]
      obtain ⟨C', hC, hCs⟩ := setCells_blk g K.t (K.flat [y]) (off + xs.length * K.k) w cur hg
      refine h _ _ ⟨fun b hb => by cases hb; exact ⟨_, hC⟩, .inr ⟨g, off, c, C', by rw [List.length_append]; rfl, hC, by rw [hCs]; exact h1, by rw [List.length_append]; exact hc, h3, ?_⟩⟩ (setCellsG g _ _ w) (fun b hb => .inl hb)
      intro j hj
      rw [List.length_append] at hj
      have hj : j < xs.length + 1 := hj
      refine ⟨g, off, rfl, fun q u hu => ?_, C', _, hC⟩
      by_cases hjx : j < xs.length
      · rw [List.getElem_append_left hjx] at hu
        have hq : q < K.k := by have := (List.getElem?_eq_some_iff.1 hu).1; rw [K.hk] at this; exact this
        have hj2 : (j + 1) * K.k ≤ xs.length * K.k := Nat.mul_le_mul_right _ hjx
        rw [Nat.succ_mul] at hj2
        obtain ⟨b2, o2, e2, h8, -⟩ := h4 j hjx
        cases e2
        rw [World.cell?_setCells_out g (K.flat [y]) (off + xs.length * K.k) w _ (fun _ _ => .inl (by show off + j * K.k + q < _; omega))]
        exact h8 q u hu
      · obtain rfl : j = xs.length := by omega
        rw [List.getElem_append_right (Nat.le_refl _)] at hu
        simp only [Nat.sub_self, List.getElem_cons_zero] at hu
        have hq : q < (K.flat [y]).length := by
          have := (List.getElem?_eq_some_iff.1 hu).1; rw [K.hk] at this; rw [hnl, Nat.one_mul]; exact this
        rw [World.cell?_setCells_in g (K.flat [y]) (off + xs.length * K.k) w hthere q hq]
        rw [← hu, ← List.getElem?_eq_getElem hq, Kd.flat_one]
    · obtain ⟨v', w', hrun, r1, r2⟩ := run_append_arg_grows (P := Tryd.prog) w K.ts o.type K.t i0 K.z K.k K.by_ K.ht hi hz0 hz1 hz2 K.hz K.hpos ⟨g, off, none⟩ xs.length c (K.flat xs) (Kd.flat_len xs) h4.news ad 1 cap (K.flat [y]) hnl hr.news (by omega) hm hb
      exact grow v' w' hrun r1 r2
end
/-- a row from its place i on -/
theorem MidG.drop {w : World} {sa : Option Addr} {sc i : Nat} {L : List Sta} (h : MidG KS w (.slice sa L.length sc) L) (hi : i ≤ L.length) : MidG KS w (.slice (SB sa sc i) (L.drop i).length (sc - i)) (L.drop i) := by
  rcases h.ex with ⟨a, e, rfl⟩ | ⟨g, o, c, cur, e, hg, h1, h2, h3, h4⟩
  · injection e with e1 e2 e3
    subst e3
    obtain rfl : i = 0 := by simpa using hi
    refine ⟨fun b hb => ?_, .inl ⟨sa, by simp [SB], rfl⟩⟩
    have e9 : SB sa 0 0 = sa := by simp [SB]
    rw [e9] at hb
    refine h.blk b (Eq.trans ?_ hb)
    cases sa <;> rfl
  · injection e with e1 e2 e3
    subst e1
    subst e3
    have hblk : ∀ m c9 b, (Value.slice (SB (some ⟨g, o, none⟩) sc i) m c9).ownBlock = some b → ∃ cur, w.heap[b]? = some (.cells cur KS.t (0, 0)) := fun m c9 b hb => by
      have e9 : SB (some ⟨g, o, none⟩) sc i = some ⟨g, o, none⟩ ∨ SB (some ⟨g, o, none⟩) sc i = some ⟨g, o + i * 2, none⟩ := by
        unfold SB
        split
        · exact .inl rfl
        · right; show some (Addr.add ⟨g, o, none⟩ (i * 2)) = _; rw [Addr.add_mid]
      rcases e9 with e9 | e9
      · rw [e9] at hb; cases hb; exact ⟨cur, hg⟩
      · rw [e9] at hb; cases hb; exact ⟨cur, hg⟩
    by_cases hc : sc = i
    · have hL0 : L.drop i = [] := List.drop_eq_nil_of_le (by omega)
      refine ⟨hblk _ _, .inl ⟨some ⟨g, o, none⟩, ?_, hL0⟩⟩
      rw [hL0]
      unfold SB
      rw [if_pos hc, hc, Nat.sub_self]
      rfl
    · refine ⟨hblk _ _, .inr ⟨g, o + i * 2, sc - i, cur, ?_, hg, ?_, ?_, by omega, ?_⟩⟩
      · unfold SB; rw [if_neg hc]; show Value.slice (some (Addr.add ⟨g, o, none⟩ (i * 2))) _ _ = _; rw [Addr.add_mid]
      · show o + i * 2 + (sc - i) * 2 ≤ _
        have h1' : o + sc * 2 ≤ cur.size := h1
        omega
      · rw [List.length_drop]; omega
      · have h9 := RdG.dropS (i := i) (sc := sc) h4 (by omega)
        unfold SB at h9
        rw [if_neg hc] at h9
        have e : Option.map (fun a : Addr => a.add (i * 2)) (some ⟨g, o, none⟩) = some ⟨g, o + i * 2, none⟩ := by show some (Addr.add ⟨g, o, none⟩ (i * 2)) = _; rw [Addr.add_mid]
        rw [e] at h9
        exact h9
/-- a log in memory, its starts a row of its own -/
structure LogM (w : World) (g p : Nat) (x : Lg) (sa : Option Addr) (sc : Nat) (d : Dst) (n : Nat) (F : Nat → Prop) : Prop where
  s : LogS w g p x sa sc d n F
  mid : MidG KS w (.slice sa x.L.length sc) x.L
  sums : ¬ F 0
  sumsS : ∀ a, sa = some a → a.block ≠ 0
/-- a log: the disk's blocks F, its own O -/
structure LogA (w : World) (g p : Nat) (x : Lg) (d : Dst) (n : Nat) (F O : Nat → Prop) : Prop where
  ex : ∃ sa sc, LogM w g p x sa sc d n F ∧ O g ∧ ∀ a, sa = some a → O a.block
  ap : ∀ b, O b → b < w.heap.size ∧ ¬ F b ∧ b ≠ 0
/-- what a call leaves of it -/
structure LogL (w : World) (g p : Nat) (n : Nat) (F O : Nat → Prop) (x' : Lg) (d' : Dst) (n' : Nat) (w' : World) : Prop where
  ex : ∃ F' O', LogA w' g p x' d' n' F' O' ∧ (∀ b, F' b → F b ∨ w.heap.size ≤ b) ∧ (∀ b, O' b → O b ∨ w.heap.size ≤ b)
  chg : Chg (fun b => F b ∨ O b) w w'
end Go.Proofs.YtibepnilhmbpeaaDoor
