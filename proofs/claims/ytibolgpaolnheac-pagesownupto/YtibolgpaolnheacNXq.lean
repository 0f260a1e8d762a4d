import Derived.Test.YtibolgpaolnheacNXh
import Derived.Test.YtibolgpaolnheacQLt
namespace Go.Proofs.Ytibolgpaolnheac
set_option linter.unusedVariables false
set_option linter.unusedSimpArgs false
open Go.RowKit Go.Maps
theorem info_rs : (Try.prog.info? tRs).map (fun i => (i.zero, i.size, i.bytes)) = some (some (.slice none 0 0), 1, 24) := by kernel_rfl
theorem info_rs1 : (Try.prog.info? tRs).map (·.size) = some 1 := by kernel_rfl
variable {w w' : World} {B : Nat} {v : Value} {xs us : List Value}
theorem rowS_below (h : w.ownsRow B tRs 1 v xs.length xs) (hb : Below w.heap.size w w') : w'.ownsRow B tRs 1 v xs.length xs := by
  refine ⟨h.1, ?_⟩
  rcases h.2 with h0 | ⟨g, cap, cur, e, hB, hg, r⟩
  · exact .inl h0
  · exact .inr ⟨g, cap, cur, e, hB, (hb.block g (Array.getElem?_eq_some_iff.1 hg).1).trans hg, r⟩
theorem rowS_sl (h : w.ownsRow B tRs 1 v xs.length xs) : ∃ a c, v = .slice a xs.length c := by
  rcases h.2 with ⟨e, h0⟩ | ⟨g, cap, cur, e, -⟩
  · exact ⟨none, 0, by rw [h0]; exact e⟩
  · exact ⟨_, _, e⟩
/-- rows more -/
theorem wp_appS {ops : Array Oper} {rest : List Oper} {o : Oper} {a : Act} {Q : Exit → Act → World → Prop} (hgd : o.guard = none) (s x : Operand)
    (ho : o.op = .call { callee := .builtin .append, args := #[s, x], argTypes := #[tRr, tRr] }) (B : Nat) (v : Value) (xs us : List Value)
    (hs : a.eval s = v) (hown : w.ownsRow B tRs 1 v xs.length xs) (y : Value) (hx : a.eval x = y) (hy : (y = .slice none 0 0 ∧ us = []) ∨ ∃ g m c, y = .slice (some ⟨g, 0, none⟩) m c ∧ m = us.length ∧ ∀ j u, us[j]? = some u → w.cell? ⟨g, j, none⟩ = some u) (h1 : ∀ u ∈ us, u.oneCell' = true)
    (hb : xs.length + us.length ≤ 5000000000000) (hbase : B ≤ w.heap.size)
    (h : ∀ v' w', w'.ownsRow B tRs 1 v' (xs ++ us).length (xs ++ us) → w.grownBy w' v.ownBlock → wpList Try.prog ops Q rest (a.put o.dst v') w') : wpList Try.prog ops Q (o :: rest) a w := by
  obtain ⟨i, hi, hz0, hz1, hz2⟩ := info_parts info_rs
  rcases hy with ⟨rfl, rfl⟩ | ⟨g, m, c, rfl, rfl, hc⟩
  · refine Lib.wpList_append_run w hgd s x tRr tRr ho v _ hs hx v w (run_append_owned_none w B tRr o.type tRs i 1 Try.underlying69 hi v xs.length xs hown) (h v w (by simpa using hown) (World.grownBy.refl _ _))
  · obtain ⟨v', w', hr, h2, h3, -, h5⟩ := run_append_own_at (P := Try.prog) w B tRr o.type tRs i _ 1 24 Try.underlying69 hi hz0 hz1 hz2 rfl (by decide) v xs.length xs hown ⟨g, 0, none⟩ us.length c us (by simp) (by
      intro j u hj
      rw [Go.WideShapes.add_plain, Nat.zero_add]
      exact hc j u hj) h1 (by simp only [maxLen]; omega) (by omega) hbase
    refine Lib.wpList_append_run w hgd s x tRr tRr ho v _ hs hx v' w' hr (h v' w' ?_ h3)
    rw [List.length_append]
    exact h2
theorem one_us {N : Nat} {x : Value} (hN : w.heap[N]? = some (.cells #[x] tRs (0, 0))) : ∀ j u, [x][j]? = some u → w.cell? ⟨N, j, none⟩ = some u := fun j u hu => by
  rw [cell_of_row _ _ _ _ _ _ hN]
  simpa using hu
section
set_option maxRecDepth 20000
set_option maxHeartbeats 6400000
theorem row_t (g n cap : Nat) (vs : List Value) (hvs : vs.length = n) (w : World) (hcell : ∀ j u, vs[j]? = some u → w.cell? ⟨g, j, none⟩ = some u) (hsl : ∀ u ∈ vs, ∃ a m c, u = .slice a m c) (i j : Nat) (hij : i ≤ j) (hj : j ≤ n) (fr : Value) (us : List Value)
    (hfr : (fr = .slice none 0 0 ∧ us = []) ∨ ∃ g m c, fr = .slice (some ⟨g, 0, none⟩) m c ∧ m = us.length ∧ ∀ j u, us[j]? = some u → w.cell? ⟨g, j, none⟩ = some u) (h1 : ∀ u ∈ us, u.oneCell' = true) (hn : n ≤ 4398046511104) (hu : us.length ≤ 100) :
    Calls Try.prog 54 #[.slice (some ⟨g, 0, none⟩) n cap, .int .i64 (i : Int), .int .i64 (j : Int), fr] w fun e w' => ∃ v', e = .returned v' ∧ w'.ownsRow w.heap.size tRs 1 v' (repL vs i j us).length (repL vs i j us) ∧ Below w.heap.size w w' := by
  have HVS : Hid (vs.length = n) := hvs
  have HC : Hid (∀ j u, vs[j]? = some u → w.cell? ⟨g, j, none⟩ = some u) := hcell
  have HSL : Hid (∀ u ∈ vs, ∃ a m c, u = .slice a m c) := hsl
  have HFR : Hid _ := hfr
  have H1 : Hid (∀ u ∈ us, u.oneCell' = true) := h1
  have HU : Hid (us.length ≤ 100) := hu
  obtain ⟨fa, fm, fc, hfs⟩ : ∃ fa fm fc, fr = .slice fa fm fc := by rcases hfr with ⟨e, -⟩ | ⟨g9, m9, c9, e, -⟩ <;> exact ⟨_, _, _, e⟩
  subst hfs
  clear hvs hcell hsl hfr h1 hu
  go_enter Try.func54, Try.ntmps54
  go_wp2_with fail
  go_loopw [9, 10] (fun l k9 wr => ∃ k : Nat, k ≤ i ∧ k9 = .int .i64 (k : Int) ∧ wr.ownsRow w.heap.size tRs 1 l (vs.take k).length (vs.take k) ∧ Below w.heap.size w wr) (fun _ k9 _ => i - (intOf k9).toNat)
  case atStart => exact ⟨0, Nat.zero_le _, rfl, World.ownsRow_nil _ _ _ _, Below.refl _ _⟩
  case round =>
    obtain ⟨k, hk, rfl, hown, hbel⟩ := hrel
    have HBEL : Hid (Below w.heap.size w wr) := hbel
    have HOW : Hid (wr.ownsRow w.heap.size tRs 1 u9 (vs.take k).length (vs.take k)) := hown
    obtain ⟨al9, cl9, hv9⟩ := rowS_sl hown
    obtain ⟨T0, hT0⟩ : ∃ T0, T0 = (vs.take k).length := ⟨_, rfl⟩
    rw [← hT0] at hv9
    subst hv9
    clear hown hbel hT0
    by_cases hlt : k < i
    · have hkv : k < vs.length := by have := HVS.out; omega
      obtain ⟨xa, xm, xc, hx⟩ := HSL.out vs[k] (List.getElem_mem hkv)
      have hck : wr.cell? ⟨g, k, none⟩ = some (.slice xa xm xc) := by
        have h9 := HC.out k vs[k] (List.getElem?_eq_getElem hkv)
        rw [hx] at h9
        exact (HBEL.out.cell (World.block_lt_of_cell? w _ h9)).trans h9
      have HTK : Hid (vs.take (k + 1) = vs.take k ++ [.slice xa xm xc]) := (show _ = _ by rw [List.take_succ_eq_append_getElem hkv, hx])
      have HLE : Hid ((vs.take k).length + [Value.slice xa xm xc].length ≤ 5000000000000) := (show _ ≤ _ by rw [List.length_take]; simp; omega)
      have hki : (k : Int) < (i : Int) := by omega
      have hkn : (k : Int) < (n : Int) := by omega
      have hk0 : (0 : Int) ≤ (k : Int) := by omega
      clear hx
      go_wp2_with (first | (at_builtin; refine wp_appS rfl _ _ rfl w.heap.size _ (vs.take k) [.slice xa xm xc] (by rfl) (rowS_below HOW.out (al (Below.refl _ _) _)) _ rfl (.inr ⟨_, _, _, rfl, rfl, one_us (heap_alloc_new wr _)⟩) (by intro u hu; simp at hu; subst hu; rfl) HLE.out (by have := HBEL.out.size; simp; omega) ?_; intro v2 w2 hown hg; have HOWN2 : Hid _ := hown; have HBEL2 : Hid (Below w.heap.size w w2) := (HBEL.out.alloc HBEL.out.size _).grown hg (by have := HBEL.out.size; simp; omega) (fun j9 h9 => (World.ownsRow.lt HOW.out j9 h9).1); clear hown hg))
      go_roundw
      case rel => exact ⟨k + 1, by omega, by go_num, by rw [HTK.out]; exact HOWN2.out, HBEL2.out⟩
      case measure => simp [intOf]; omega
    · obtain rfl : k = i := by omega
      have hkI : ¬ ((k : Int) < (k : Int)) := by omega
      have HLE : Hid ((vs.take k).length + us.length ≤ 5000000000000) := (show _ ≤ _ by rw [List.length_take]; have := HU.out; omega)
      go_wp2_with (first | (at_builtin; refine wp_appS rfl _ _ rfl w.heap.size _ (vs.take k) us (by rfl) HOW.out _ rfl (HFR.out.imp_right (fun ⟨g9, m9, c9, e9, em, hc9⟩ => ⟨g9, m9, c9, e9, em, fun j9 u9 hu9 => (HBEL.out.cell (World.block_lt_of_cell? w _ (hc9 j9 u9 hu9))).trans (hc9 j9 u9 hu9)⟩)) H1.out HLE.out HBEL.out.size ?_; intro v2 w2 hown hg; have HOWN2 : Hid (w2.ownsRow w.heap.size tRs 1 v2 (vs.take k ++ us).length (vs.take k ++ us)) := hown; have HBEL2 : Hid (Below w.heap.size w w2) := HBEL.out.grown hg HBEL.out.size (fun j9 h9 => (World.ownsRow.lt HOW.out j9 h9).1); clear hown hg))
      go_loopw [9, 11] (fun l k9 wr => ∃ q : Nat, j ≤ q ∧ q ≤ n ∧ k9 = .int .i64 (q : Int) ∧ wr.ownsRow w.heap.size tRs 1 l (vs.take k ++ us ++ (vs.take q).drop j).length (vs.take k ++ us ++ (vs.take q).drop j) ∧ Below w.heap.size w wr) (fun _ k9 _ => n - (intOf k9).toNat)
      case atStart => exact ⟨j, Nat.le_refl _, hj, rfl, by rw [List.drop_eq_nil_of_le (by rw [List.length_take]; omega), List.append_nil]; exact HOWN2.out, HBEL2.out⟩
      case round =>
        obtain ⟨q, hjq, hqn, rfl, hown, hbel⟩ := hrel
        have HBE2 : Hid (Below w.heap.size w wr) := hbel
        have HOW2 : Hid (wr.ownsRow w.heap.size tRs 1 u9 (vs.take k ++ us ++ (vs.take q).drop j).length (vs.take k ++ us ++ (vs.take q).drop j)) := hown
        obtain ⟨al9, cl9, hv9⟩ := rowS_sl hown
        obtain ⟨T0, hT0⟩ : ∃ T0, T0 = (vs.take k ++ us ++ (vs.take q).drop j).length := ⟨_, rfl⟩
        have HT0 : Hid (T0 = (vs.take k ++ us ++ (vs.take q).drop j).length) := hT0
        rw [← hT0] at hv9
        subst hv9
        clear hown hbel hT0
        by_cases hlq : q < n
        · have hqv : q < vs.length := by have := HVS.out; omega
          obtain ⟨xa, xm, xc, hx⟩ := HSL.out vs[q] (List.getElem_mem hqv)
          have hck : wr.cell? ⟨g, q, none⟩ = some (.slice xa xm xc) := by
            have h9 := HC.out q vs[q] (List.getElem?_eq_getElem hqv)
            rw [hx] at h9
            exact (HBE2.out.cell (World.block_lt_of_cell? w _ h9)).trans h9
          have HTK : Hid (vs.take k ++ us ++ (vs.take (q + 1)).drop j = vs.take k ++ us ++ (vs.take q).drop j ++ [.slice xa xm xc]) := (show _ = _ by rw [List.take_succ_eq_append_getElem hqv, hx, List.drop_append_of_le_length (by rw [List.length_take]; omega)]; simp only [List.append_assoc])
          have HLE : Hid ((vs.take k ++ us ++ (vs.take q).drop j).length + [Value.slice xa xm xc].length ≤ 5000000000000) := (show _ ≤ _ by
            rw [List.length_append, List.length_append, List.length_drop, List.length_take, List.length_take]
            have := HU.out; have := HVS.out
            simp; omega)
          have hqi : (q : Int) < (n : Int) := by omega
          have hq0 : (0 : Int) ≤ (q : Int) := by omega
          clear hx
          go_wp2_with (first | (at_builtin; refine wp_appS rfl _ _ rfl w.heap.size _ (vs.take k ++ us ++ (vs.take q).drop j) [.slice xa xm xc] (by rfl) (rowS_below HOW2.out (al (Below.refl _ _) _)) _ rfl (.inr ⟨_, _, _, rfl, rfl, one_us (heap_alloc_new wr _)⟩) (by intro u hu; simp at hu; subst hu; rfl) HLE.out (by have := HBE2.out.size; simp; omega) ?_; intro v3 w3 hown hg; have HOWN3 : Hid _ := hown; have HBEL3 : Hid (Below w.heap.size w w3) := (HBE2.out.alloc HBE2.out.size _).grown hg (by have := HBE2.out.size; simp; omega) (fun j9 h9 => (World.ownsRow.lt HOW2.out j9 h9).1); clear hown hg))
          go_roundw
          case rel => exact ⟨q + 1, by omega, by omega, by go_num, by rw [HTK.out]; exact HOWN3.out, HBEL3.out⟩
          case measure => simp [intOf]; omega
        · obtain rfl : q = n := by omega
          have hqI : ¬ ((q : Int) < (q : Int)) := by omega
          have HRES : Hid (vs.take k ++ us ++ (vs.take q).drop j = repL vs k j us) := (show _ = _ by unfold repL; rw [List.take_of_length_le (by have := HVS.out; omega : vs.length ≤ q)])
          go_wp2
          go_ret
          exact ⟨_, rfl, by rw [← HRES.out]; exact HOW2.out, HBE2.out⟩
end
end Go.Proofs.Ytibolgpaolnheac
namespace Go.Proofs.Ytibolgpaolnheac
set_option linter.unusedVariables false
set_option linter.unusedSimpArgs false
open Go.RowKit Go.Maps
variable {w w' : World} {r S : Nat} {P : List (List Ent)} {v v' : Value} {vs : List Value}
/-- the blocks of the document's index -/
def footR (r : Nat) (v : Value) (vs : List Value) (b : Nat) : Prop := b = r ∨ v.ownBlock = some b ∨ ∃ x, x ∈ vs ∧ x.ownBlock = some b
theorem rowX_blk {B : Nat} {t : TypeId} {sz n : Nat} {x : Value} {cs : List Value} (h : w.ownsRow B t sz x n cs) (b : Nat) (hb : x.ownBlock = some b) : ∃ cur, w.heap[b]? = some (.cells cur t (0, 0)) := by
  rcases h.2 with ⟨rfl, -⟩ | ⟨g', cap, cur, rfl, -, hg, -⟩
  · cases hb
  · cases hb; exact ⟨cur, hg⟩
theorem row_kept {B : Nat} {t : TypeId} {sz n : Nat} {x : Value} {cs : List Value} (h : w.ownsRow B t sz x n cs) (hk : ∀ b, x.ownBlock = some b → w'.heap[b]? = w.heap[b]?) : w'.ownsRow B t sz x n cs := by
  refine ⟨h.1, ?_⟩
  rcases h.2 with h0 | ⟨g, cap, cur, e, hB, hg, r⟩
  · exact .inl h0
  · exact .inr ⟨g, cap, cur, e, hB, (hk g (by rw [e]; rfl)).trans hg, r⟩
theorem row_base {B B' : Nat} {t : TypeId} {sz n : Nat} {x : Value} {cs : List Value} (h : w.ownsRow B t sz x n cs) (hB : B' ≤ B) : w.ownsRow B' t sz x n cs := by
  refine ⟨h.1, ?_⟩
  rcases h.2 with h0 | ⟨g, cap, cur, e, hB2, hg, r⟩
  · exact .inl h0
  · exact .inr ⟨g, cap, cur, e, Nat.le_trans hB hB2, hg, r⟩
theorem flatE_set (A C : List Ent) (x : Ent) (n : Nat) : (flatE (A ++ x :: C)).set (A.length * 3 + 2) (.int .u64 (n : Int)) = flatE (A ++ [⟨x.st, n⟩] ++ C) := by
  rw [flatE_app, show flatE (x :: C) = ev x ++ flatE C by simp [flatE], List.set_append_right _ _ (by rw [flatE_len]; omega), flatE_len, show A.length * 3 + 2 - A.length * 3 = 2 by omega, List.append_assoc, flatE_app, show flatE ([⟨x.st, n⟩] ++ C) = ev ⟨x.st, n⟩ ++ flatE C by simp [flatE]]
  rfl
theorem RefI.len (h : RefI w r S P v vs) : vs.length = P.length := by have := h.row.1; omega
theorem RefI.pgv (h : RefI w r S P v vs) (x : Value) (hx : x ∈ vs) : ∃ j, ∃ hj : j < P.length, vs[j]? = some x ∧ w.ownsRow 0 tRe 3 x P[j].length (flatE P[j]) := by
  obtain ⟨j, hj, e⟩ := List.getElem_of_mem hx
  have hjP : j < P.length := by rw [← h.len]; exact hj
  obtain ⟨y, hy, hr⟩ := h.pg j hjP
  rw [List.getElem?_eq_getElem hj, e] at hy
  cases hy
  exact ⟨j, hjP, by rw [List.getElem?_eq_getElem hj, e], hr⟩
theorem RefI.sl (h : RefI w r S P v vs) : ∀ u ∈ vs, ∃ a m c, u = .slice a m c := fun u hu => by
  obtain ⟨j, hj, -, hr⟩ := h.pgv u hu
  obtain ⟨a, c, e, -⟩ := ownX_rd hr
  exact ⟨_, _, _, e⟩
theorem RefI.ty (h : RefI w r S P v vs) (b : Nat) (hb : footR r v vs b) : ∃ cur t, w.heap[b]? = some (.cells cur t (0, 0)) ∧ (t = tRi ∨ t = tRs ∨ t = tRe) := by
  rcases hb with rfl | hb | ⟨x, hx, hb⟩
  · exact ⟨_, _, h.hd, .inl rfl⟩
  · obtain ⟨cur, h9⟩ := rowX_blk h.row b hb; exact ⟨_, _, h9, .inr (.inl rfl)⟩
  · obtain ⟨j, hj, -, hr⟩ := h.pgv x hx
    obtain ⟨cur, h9⟩ := rowX_blk hr b hb; exact ⟨_, _, h9, .inr (.inr rfl)⟩
theorem RefI.lt (h : RefI w r S P v vs) (b : Nat) (hb : footR r v vs b) : b < w.heap.size := by
  obtain ⟨cur, t, h9, -⟩ := h.ty b hb
  exact (Array.getElem?_eq_some_iff.1 h9).1
theorem RefI.kept (h : RefI w r S P v vs) (hk : ∀ b, footR r v vs b → w'.heap[b]? = w.heap[b]?) : RefI w' r S P v vs :=
  ⟨(hk r (.inl rfl)).trans h.hd, row_kept h.row (fun b hb => hk b (.inr (.inl hb))), fun j hj => by
    obtain ⟨x, hx, hr⟩ := h.pg j hj
    exact ⟨x, hx, row_kept hr (fun b hb => hk b (.inr (.inr ⟨x, List.mem_of_getElem? hx, hb⟩)))⟩, h.ap⟩
theorem RefI.below (h : RefI w r S P v vs) (hb : Below w.heap.size w w') : RefI w' r S P v vs := h.kept (fun b h9 => hb.block b (h.lt b h9))
/-- pages are put in the place of others, in a new row or in the old one -/
theorem RefI.rep (h : RefI w r S P v vs) (hd : w'.heap[r]? = some (.cells #[.int .i64 (S : Int), v'] tRi (0, 0))) (i j : Nat) (hi : i ≤ P.length) (Q : List (List Ent)) (us : List Value) (hql : us.length = Q.length)
    (hq : ∀ (t : Nat) p, Q[t]? = some p → ∃ x, us[t]? = some x ∧ w'.ownsRow w.heap.size tRe 3 x p.length (flatE p)) (hqa : us.Pairwise apV) (hrow : w'.ownsRow 0 tRs 1 v' (repL P i j Q).length (repL vs i j us)) (hk : ∀ x ∈ vs, ∀ b, x.ownBlock = some b → w'.heap[b]? = w.heap[b]?) (hij : i ≤ j) :
    RefI w' r S (repL P i j Q) v' (repL vs i j us) := by
  refine ⟨hd, hrow, fun t ht => ?_, ?_⟩
  · have hold : ∀ (t : Nat) p, P[t]? = some p → ∃ x, vs[t]? = some x ∧ w'.ownsRow 0 tRe 3 x p.length (flatE p) := fun t p e => by
      obtain ⟨ht, rfl⟩ := List.getElem?_eq_some_iff.1 e
      obtain ⟨x, hx, hr⟩ := h.pg t ht
      exact ⟨x, hx, row_kept hr (hk x (List.mem_of_getElem? hx))⟩
    have e1 := repL_get (new := Q) (j := j) hi t
    have e2 := repL_get (l := vs) (new := us) (i := i) (j := j) (by rw [h.len]; exact hi) t
    rw [hql] at e2
    rw [List.getElem?_eq_getElem ht] at e1
    rw [e2]
    split at e1
    · rename_i c1; rw [if_pos c1]; exact hold _ _ e1.symm
    · rename_i c1
      rw [if_neg c1]
      split at e1
      · rename_i c2; rw [if_pos c2]; obtain ⟨x, hx, hr⟩ := hq _ _ e1.symm; exact ⟨x, hx, row_base hr (Nat.zero_le _)⟩
      · rename_i c2; rw [if_neg c2]; exact hold _ _ e1.symm
  · have hnew : ∀ x ∈ us, ∀ b, x.ownBlock = some b → w.heap.size ≤ b := fun x hx b hb => by
      obtain ⟨t, ht, e⟩ := List.getElem_of_mem hx
      have htQ : t < Q.length := by omega
      obtain ⟨y, hy, hr⟩ := hq t Q[t] (List.getElem?_eq_getElem htQ)
      rw [List.getElem?_eq_getElem ht, e] at hy
      cases hy
      exact (World.ownsRow.lt hr b hb).1
    have hlt : ∀ x ∈ vs, ∀ b, x.ownBlock = some b → b < w.heap.size := fun x hx b hb => h.lt b (.inr (.inr ⟨x, hx, hb⟩))
    have hon : ∀ x ∈ vs, ∀ y ∈ us, apV x y := fun x hx y hy b e1 e2 => by have := hlt x hx b e1; have := hnew y hy b e2; omega
    have hno : ∀ x ∈ us, ∀ y ∈ vs, apV x y := fun x hx y hy b e1 e2 => by have := hnew x hx b e1; have := hlt y hy b e2; omega
    unfold repL
    rw [List.pairwise_append, List.pairwise_append]
    refine ⟨⟨h.ap.sublist (List.take_sublist _ _), hqa, fun x hx y hy => hon x (List.mem_of_mem_take hx) y hy⟩, h.ap.sublist (List.drop_sublist _ _), fun x hx y hy => ?_⟩
    rcases List.mem_append.1 hx with hx | hx
    · have hs : (vs.take i ++ vs.drop i).Pairwise apV := by rw [List.take_append_drop]; exact h.ap
      refine (List.pairwise_append.1 hs).2.2 x hx y ?_
      rw [show j = i + (j - i) by omega, ← List.drop_drop] at hy
      exact List.mem_of_mem_drop hy
    · exact hno x hx y (List.mem_of_mem_drop hy)
/-- a value of a page is written over -/
theorem RefI.setVal (h : RefI w r S P v vs) (p i : Nat) (hp : p < P.length) (hi : i < P[p].length) (n b : Nat) (x : Value) (hx : vs[p]? = some x) (hb : x.ownBlock = some b) :
    RefI (w.setCell ⟨b, i * 3 + 2, none⟩ (.int .u64 (n : Int))) r S (repL P p (p + 1) [putL P[p] i true ⟨P[p][i].st, n⟩]) v vs := by
  obtain ⟨y, hy, hr⟩ := h.pg p hp
  rw [hx] at hy
  cases hy
  obtain ⟨cur9, hb9⟩ := rowX_blk hr b hb
  have hty : ∀ {k : Nat} {cur : Array Value} {t : TypeId} {fr : Nat × Nat}, w.heap[k]? = some (.cells cur t fr) → t ≠ tRe → (w.setCell ⟨b, i * 3 + 2, none⟩ (.int .u64 (n : Int))).heap[k]? = w.heap[k]? := fun hk ht => heap_setCell_other _ _ _ _ (fun e => by
    simp at e
    subst e
    rw [hb9] at hk
    injection hk with hk
    injection hk with e1 e2
    exact ht e2.symm)
  have hpv : p < vs.length := by rw [h.len]; exact hp
  have e0 : repL P p (p + 1) [putL P[p] i true ⟨P[p][i].st, n⟩] = P.set p (putL P[p] i true ⟨P[p][i].st, n⟩) := by
    unfold repL; rw [List.set_eq_take_append_cons_drop, if_pos hp]; simp
  rw [e0]
  refine ⟨(hty h.hd (by decide)).trans h.hd, ?_, fun j hj => ?_, h.ap⟩
  · rw [List.length_set]
    refine row_kept h.row (fun k hk => ?_)
    obtain ⟨cur, h9⟩ := rowX_blk h.row k hk
    exact hty h9 (by decide)
  · rw [List.length_set] at hj
    obtain ⟨y, hy, hry⟩ := h.pg j hj
    by_cases e : j = p
    · subst e
      rw [hx] at hy
      cases hy
      refine ⟨x, hx, ?_⟩
      rw [List.getElem_set_self]
      rcases hr.2 with ⟨e, h0⟩ | ⟨g, cap, cur, e, hB, hg, hn1, hm, hcs, hf⟩
      · omega
      · subst e
        cases hb
        have h9 := World.ownsRow.stored hr (i * 3 + 2) (.int .u64 (n : Int))
        have el : (putL P[j] i true ⟨P[j][i].st, n⟩).length = P[j].length := by rw [putL_len (by omega) (fun _ => hi)]; rfl
        rw [el]
        have ef : (flatE P[j]).set (i * 3 + 2) (.int .u64 (n : Int)) = flatE (putL P[j] i true ⟨P[j][i].st, n⟩) := by
          have h8 := flatE_set (P[j].take i) (P[j].drop (i + 1)) P[j][i] n
          rw [← List.drop_eq_getElem_cons hi, List.take_append_drop, List.length_take, Nat.min_eq_left (by omega)] at h8
          exact h8
        rw [← ef]
        exact h9.1
    · refine ⟨y, hy, ?_⟩
      rw [List.getElem_set_ne (fun h9 => e h9.symm)]
      refine row_kept hry (fun k hk => heap_setCell_other _ _ _ _ (fun e9 => ?_))
      simp at e9
      subst e9
      have hjv : j < vs.length := by rw [h.len]; exact hj
      have hq := List.pairwise_iff_getElem.1 h.ap
      rw [List.getElem?_eq_getElem hjv] at hy
      rw [List.getElem?_eq_getElem hpv] at hx
      cases hy; cases hx
      rcases Nat.lt_or_ge j p with h9 | h9
      · exact hq j p hjv hpv h9 _ hk hb
      · exact hq p j hpv hjv (by omega) _ hb hk
end Go.Proofs.Ytibolgpaolnheac
namespace Go.Proofs.Ytibolgpaolnheac
set_option linter.unusedVariables false
set_option linter.unusedSimpArgs false
open Go.RowKit Go.Maps
variable {w w' : World} {r S : Nat} {P : List (List Ent)} {v v' : Value} {vs : List Value}
theorem footR_step {F : Nat → Prop} {v2 : Value} {vs2 : List Value} (hv : ∀ b, v2.ownBlock = some b → F b ∨ w.heap.size ≤ b) (hvs : ∀ x ∈ vs2, ∀ b, x.ownBlock = some b → F b ∨ w.heap.size ≤ b) (hr : F r) : ∀ b, footR r v2 vs2 b → F b ∨ w.heap.size ≤ b := fun b hb => by
  rcases hb with rfl | hb | ⟨x, hx, hb⟩
  · exact .inl hr
  · exact hv b hb
  · exact hvs x hx b hb
theorem RdX.take {a : Option Addr} {xs : List Ent} (h : RdX w a xs) (k : Nat) : RdX w a (xs.take k) := fun j hj => by
  have hj' : j < xs.length := by have := hj; rw [List.length_take] at this; omega
  obtain ⟨b, o, h1, h2⟩ := h j hj'
  exact ⟨b, o, h1, by rw [List.getElem_take]; exact h2⟩
theorem RdX.drop {b o : Nat} {xs : List Ent} (h : RdX w (some ⟨b, o, none⟩) xs) (k : Nat) : RdX w (some ⟨b, o + k * 3, none⟩) (xs.drop k) := fun j hj => by
  have hj' : k + j < xs.length := by have := hj; rw [List.length_drop] at this; omega
  obtain ⟨b', o', h1, h2⟩ := h (k + j) hj'
  cases h1
  refine ⟨_, _, rfl, ?_⟩
  rw [List.getElem_drop, show o + k * 3 + j * 3 = o + (k + j) * 3 by rw [Nat.add_mul]; omega]
  exact h2
theorem two_vs {N : Nat} {x y : Value} (hN : w.heap[N]? = some (.cells #[x, y] tRs (0, 0))) : ∀ j u, [x, y][j]? = some u → w.cell? ⟨N, j, none⟩ = some u := fun j u hu => by
  rw [cell_of_row _ _ _ _ _ _ hN]
  simpa using hu
/-- two rows of entries, in blocks of their own behind a world -/
structure PairX (wc u : World) (vA : Value) (xa : List Ent) (vB : Value) (xb : List Ent) : Prop where
  bel : Below wc.heap.size wc u
  oa : OwnX u wc.heap.size vA xa
  ob : OwnX u wc.heap.size vB xb
  ap : apV vA vB
variable {wc u : World} {vA vB : Value} {xa xb : List Ent}
theorem PairX.init (u : World) : PairX u u (.slice none 0 0) [] (.slice none 0 0) [] := ⟨Below.refl _ _, OwnX.nil _ _, OwnX.nil _ _, fun b e => by cases e⟩
theorem PairX.swap (h : PairX wc u vA xa vB xb) : PairX wc u vB xb vA xa := ⟨h.bel, h.ob, h.oa, fun b e1 e2 => h.ap b e2 e1⟩
theorem PairX.below (h : PairX wc u vA xa vB xb) (hb : Below u.heap.size u w') : PairX wc w' vA xa vB xb := ⟨below_next h.bel hb, h.oa.below hb, h.ob.below hb, h.ap⟩
theorem PairX.lit (h : PairX wc u vA xa vB xb) : PairX wc (u.alloc (.cells #[] tRe)) (.slice (some ⟨u.heap.size, 0, none⟩) 0 0) [] vB xb := by
  have hb : Below u.heap.size u (u.alloc (.cells #[] tRe)) := al (Below.refl _ _) _
  refine ⟨below_next h.bel hb, ?_, h.ob.below hb, ?_⟩
  · exact ⟨rfl, .inr ⟨u.heap.size, 0, #[], rfl, h.bel.size, heap_alloc_new u _, Nat.le_refl _, by decide, rfl, rfl⟩⟩
  · intro b e1 e2
    cases e1
    exact absurd (World.ownsRow.lt h.ob _ e2).2 (Nat.lt_irrefl _)
theorem PairX.litB (h : PairX wc u vA xa vB xb) : PairX wc (u.alloc (.cells #[] tRe)) vA xa (.slice (some ⟨u.heap.size, 0, none⟩) 0 0) [] := h.swap.lit.swap
theorem wpo_runX {w : World} {o : Oper} {a : Act} {K' : Act → World → Prop} {Q : Exit → Act → World → Prop} (s y : Operand) (ho : o.op = .call { callee := .builtin .append, args := #[s, y], argTypes := #[tRs, tRs] })
    (v x : Value) (hs : a.eval s = v) (hy : a.eval y = x) (v' : Value) (w' : World) (hr : (Builtin.append_ #[tRs, tRs] o.type #[v, x]).run Try.prog w = .ok v' w') (h : K' (a.put o.dst v') w') : Oper.wp Try.prog o a w K' Q := by
  unfold Oper.wp execOp
  simp only [ho, resolve, invoke, builtin, Sem.run_bind, Sem.run_pure, Result.andThen_ok, List.map_toArray, List.map_cons, List.map_nil, hs, hy, hr]
  exact h
/-- append of what can be read to the first of the two -/
theorem wpo_appX {o : Oper} {a : Act} {K' : Act → World → Prop} {Q : Exit → Act → World → Prop} (s x : Operand) (ho : o.op = .call { callee := .builtin .append, args := #[s, x], argTypes := #[tRs, tRs] })
    (h : PairX wc u vA [] vB xb) (ys : List Ent) (hs : a.eval s = vA) (b o2 m c : Nat) (hm : m = ys.length) (hx : a.eval x = .slice (some ⟨b, o2, none⟩) m c) (hc : RdX wc (some ⟨b, o2, none⟩) ys) (hl : ys.length ≤ 5000000000000)
    (hk : ∀ (a' : Option Addr) (c' : Nat) (w' : World), PairX wc w' (.slice a' m c') ys vB xb → K' (a.put o.dst (.slice a' m c')) w') : Oper.wp Try.prog o a u K' Q := by
  subst hm
  obtain ⟨i, hi, hz0, hz1, hz2⟩ := info_parts info_re
  obtain ⟨v', w', hr, h2, h3, -, h5⟩ := run_append_own_at (P := Try.prog) u wc.heap.size tRs o.type tRe i _ 3 24 Try.underlying61 hi hz0 hz1 hz2 rfl (by decide) vA ([] : List Ent).length _ h.oa ⟨b, o2, none⟩ ys.length c (flatE ys) (flatE_len ys) (by
    intro j u9 hj
    rw [Go.WideShapes.add_plain]
    exact (hc.below h.bel).cells j u9 hj) (flatE_one' ys) (by simp only [maxLen]; simp; omega) (by simp; omega) h.bel.size
  have hown : OwnX w' wc.heap.size v' ys := by
    unfold OwnX
    have e : ([] : List Ent).length + ys.length = ys.length := by simp
    rw [e] at h2
    exact h2
  obtain ⟨a', c', rfl, -⟩ := hown.val
  refine wpo_runX s x ho _ _ hs hx _ w' hr (hk a' c' w' ⟨?_, hown, ?_, ?_⟩)
  · exact h.bel.grown h3 h.bel.size (fun j9 h9 => (World.ownsRow.lt h.oa j9 h9).1)
  · exact row_kept h.ob (fun k hk9 => h3.block k (World.ownsRow.lt h.ob k hk9).2 (fun e => h.ap k e.symm hk9))
  · intro k e1 e2
    rcases h5 with h5 | h5
    · rw [h5] at e1; exact h.ap k e1 e2
    · rw [h5] at e1; cases e1; exact absurd (World.ownsRow.lt h.ob _ e2).2 (Nat.lt_irrefl _)
theorem wpo_appXB {o : Oper} {a : Act} {K' : Act → World → Prop} {Q : Exit → Act → World → Prop} (s x : Operand) (ho : o.op = .call { callee := .builtin .append, args := #[s, x], argTypes := #[tRs, tRs] })
    (h : PairX wc u vA xa vB []) (ys : List Ent) (hs : a.eval s = vB) (b o2 m c : Nat) (hm : m = ys.length) (hx : a.eval x = .slice (some ⟨b, o2, none⟩) m c) (hc : RdX wc (some ⟨b, o2, none⟩) ys) (hl : ys.length ≤ 5000000000000)
    (hk : ∀ (a' : Option Addr) (c' : Nat) (w' : World), PairX wc w' vA xa (.slice a' m c') ys → K' (a.put o.dst (.slice a' m c')) w') : Oper.wp Try.prog o a u K' Q :=
  wpo_appX s x ho h.swap ys hs b o2 m c hm hx hc hl (fun a' c' w' h9 => hk a' c' w' h9.swap)
/-- a new row of pages, some of them new -/
theorem RefI.newRow (h : RefI w r S P v vs) (hb : Below w.heap.size w u) (us : List Value) (Q : List (List Ent)) (hql : us.length = Q.length) (hq : ∀ (t : Nat) p, Q[t]? = some p → ∃ x, us[t]? = some x ∧ OwnX u w.heap.size x p) (hqa : us.Pairwise apV)
    {u5 : World} (hu : Below u.heap.size u u5) (i j : Nat) (hi : i ≤ P.length) (hij : i ≤ j) {B5 : Nat} {v5 : Value} (hrow : u5.ownsRow B5 tRs 1 v5 (repL vs i j us).length (repL vs i j us)) (hB5 : w.heap.size ≤ B5) :
    RefI (u5.setCell ⟨r, 1, none⟩ v5) r S (repL P i j Q) v5 (repL vs i j us) ∧ (∀ b, footR r v5 (repL vs i j us) b → footR r v vs b ∨ w.heap.size ≤ b) ∧ Chg (footR r v vs) w (u5.setCell ⟨r, 1, none⟩ v5) := by
  have hrl : r < w.heap.size := h.lt r (.inl rfl)
  have hbu : Below w.heap.size w u5 := below_next hb hu
  have hd5 : u5.heap[r]? = some (.cells #[.int .i64 (S : Int), v] tRi (0, 0)) := (hbu.block r hrl).trans h.hd
  have hnr : ∀ k, k ≠ r → (u5.setCell ⟨r, 1, none⟩ v5).heap[k]? = u5.heap[k]? := fun k hk => heap_setCell_other _ _ _ _ (fun e => hk (by simp at e; exact e))
  have hlen : (repL P i j Q).length = (repL vs i j us).length := by
    rw [repL_len hi, repL_len (by rw [h.len]; exact hi), hql, h.len]
  have hold : ∀ x ∈ vs, ∀ b, x.ownBlock = some b → b ≠ r := fun x hx b hb9 e => by
    obtain ⟨j9, hj9, -, hr9⟩ := h.pgv x hx
    obtain ⟨cur9, h9⟩ := rowX_blk hr9 b hb9
    subst e
    rw [h.hd] at h9
    injection h9 with h9
    injection h9 with e1 e2
    exact absurd e2 (by decide)
  refine ⟨h.rep ?_ i j hi Q us hql ?_ hqa ?_ ?_ hij, footR_step ?_ ?_ (.inl rfl), ?_⟩
  · rw [heap_setCell_same u5 r 1 _ _ _ hd5]; rfl
  · intro t p hp
    obtain ⟨x, hx, ho⟩ := hq t p hp
    refine ⟨x, hx, row_kept (OwnX.below ho hu) (fun k hk => hnr k (fun e => ?_))⟩
    have := (World.ownsRow.lt ho k hk).1
    omega
  · rw [hlen]
    refine row_base (row_kept hrow (fun k hk => hnr k (fun e => ?_))) (Nat.zero_le _)
    have := (World.ownsRow.lt hrow k hk).1
    omega
  · intro x hx k hk
    rw [hnr k (hold x hx k hk)]
    exact hbu.block k (h.lt k (.inr (.inr ⟨x, hx, hk⟩)))
  · intro k hk
    have := (World.ownsRow.lt hrow k hk).1
    exact .inr (by omega)
  · intro x hx k hk
    unfold repL at hx
    rcases List.mem_append.1 hx with hx | hx
    · rcases List.mem_append.1 hx with hx | hx
      · exact .inl (.inr (.inr ⟨x, List.mem_of_mem_take hx, hk⟩))
      · obtain ⟨t, ht, e⟩ := List.getElem_of_mem hx
        obtain ⟨y, hy, ho⟩ := hq t Q[t] (List.getElem?_eq_getElem (by omega))
        rw [List.getElem?_eq_getElem ht, e] at hy
        cases hy
        exact .inr (World.ownsRow.lt ho k hk).1
    · exact .inl (.inr (.inr ⟨x, List.mem_of_mem_drop hx, hk⟩))
  · refine (Chg.of_below hbu).trans (G := fun k => k = r) (Chg.of_grown (row := some r) ⟨rfl, rfl, rfl, by simp, fun k _ hk => heap_setCell_other u5 _ k _ (fun e => hk (by simp at e; rw [e]))⟩ (fun k e => by cases e; rfl)) (fun k e => .inl (.inl e))
/-- a new page in the old row -/
theorem RefI.setRow {gr N cap : Nat} (h : RefI w r S P (.slice (some ⟨gr, 0, none⟩) N cap) vs) (hN : N = P.length) (hb : Below w.heap.size w u) (p : Nat) (hp : p < P.length) {x : Value} {l : List Ent} (ho : OwnX u w.heap.size x l) :
    RefI (u.setCell ⟨gr, p, none⟩ x) r S (repL P p (p + 1) [l]) (.slice (some ⟨gr, 0, none⟩) N cap) (repL vs p (p + 1) [x]) ∧ (∀ b, footR r (.slice (some ⟨gr, 0, none⟩) N cap) (repL vs p (p + 1) [x]) b → footR r (.slice (some ⟨gr, 0, none⟩) N cap) vs b ∨ w.heap.size ≤ b) ∧ Chg (footR r (.slice (some ⟨gr, 0, none⟩) N cap) vs) w (u.setCell ⟨gr, p, none⟩ x) := by
  obtain ⟨gcur, hgc⟩ := rowX_blk h.row gr rfl
  have hgl : gr < w.heap.size := (Array.getElem?_eq_some_iff.1 hgc).1
  have hty : ∀ (k : Nat) cur t fr, w.heap[k]? = some (.cells cur t fr) → t ≠ tRs → (u.setCell ⟨gr, p, none⟩ x).heap[k]? = some (.cells cur t fr) := fun k cur t fr hk ht => by
    rw [heap_setCell_other _ _ _ _ (fun e => by
      simp at e
      subst e
      rw [hgc] at hk
      injection hk with hk
      injection hk with e1 e2
      exact ht e2.symm)]
    exact (hb.block k (Array.getElem?_eq_some_iff.1 hk).1).trans hk
  have hpv : p < vs.length := by rw [h.len]; exact hp
  refine ⟨h.rep (hty r _ _ _ h.hd (by decide)) p (p + 1) (by omega) [l] [x] rfl ?_ (List.pairwise_singleton _ _) ?_ ?_ (Nat.le_succ _), footR_step (fun k hk => .inl (.inr (.inl hk))) (fun y hy k hk => ?_) (.inl rfl), ?_⟩
  · intro t q hq
    match t, hq with
    | 0, hq =>
      cases hq
      refine ⟨_, rfl, row_kept ho (fun k hk => heap_setCell_other _ _ _ _ (fun e => ?_))⟩
      have := (World.ownsRow.lt ho k hk).1
      simp at e
      omega
    | t + 1, hq => simp at hq
  · have hrw : u.ownsRow 0 tRs 1 (.slice (some ⟨gr, 0, none⟩) N cap) N vs := row_kept (by have h9 := h.row; rw [← hN] at h9; exact h9) (fun k hk => by cases hk; exact hb.block gr hgl)
    have h9 := (World.ownsRow.stored hrw p x).1
    rw [show repL vs p (p + 1) [x] = vs.set p x by unfold repL; rw [List.set_eq_take_append_cons_drop, if_pos hpv]; simp, repL_len (by omega)]
    rw [show p + [l].length + (P.length - (p + 1)) = N by simp; omega]
    exact h9
  · intro y hy k hk
    obtain ⟨j9, hj9, -, hr9⟩ := h.pgv y hy
    obtain ⟨cur9, h9⟩ := rowX_blk hr9 k hk
    rw [hty k _ _ _ h9 (by decide), h9]
  · unfold repL at hy
    rcases List.mem_append.1 hy with hy | hy
    · rcases List.mem_append.1 hy with hy | hy
      · exact .inl (.inr (.inr ⟨y, List.mem_of_mem_take hy, hk⟩))
      · obtain rfl := List.mem_singleton.1 hy
        exact .inr (World.ownsRow.lt ho k hk).1
    · exact .inl (.inr (.inr ⟨y, List.mem_of_mem_drop hy, hk⟩))
  · refine (Chg.of_below hb).trans (G := fun k => k = gr) (Chg.of_grown (row := some gr) ⟨rfl, rfl, rfl, by simp, fun k _ hk => heap_setCell_other u _ k _ (fun e => hk (by simp at e; rw [e]))⟩ (fun k e => by cases e; rfl)) (fun k e => .inl ?_)
    subst e
    exact .inr (.inl rfl)
/-- the call of row -/
theorem RefI.rowCall {gr N cap : Nat} (h : RefI w r S P (.slice (some ⟨gr, 0, none⟩) N cap) vs) (hN : N = P.length) (hPl : N ≤ 4398046511104) (hb : Below w.heap.size w u) (i j : Nat) (hij : i ≤ j) (hj : j ≤ N) (fr : Value) (us : List Value)
    (hfr : (fr = .slice none 0 0 ∧ us = []) ∨ ∃ g m c, fr = .slice (some ⟨g, 0, none⟩) m c ∧ m = us.length ∧ ∀ j x, us[j]? = some x → u.cell? ⟨g, j, none⟩ = some x) (h1 : ∀ x ∈ us, x.oneCell' = true) (hu : us.length ≤ 100) :
    Calls Try.prog 54 #[.slice (some ⟨gr, 0, none⟩) N cap, .int .i64 (i : Int), .int .i64 (j : Int), fr] u fun e w' => ∃ v', e = .returned v' ∧ w'.ownsRow u.heap.size tRs 1 v' (repL vs i j us).length (repL vs i j us) ∧ Below u.heap.size u w' := by
  have hvl : vs.length = N := by rw [h.len]; exact hN.symm
  obtain ⟨gcur, hgc⟩ := rowX_blk h.row gr rfl
  have hrw : u.ownsRow 0 tRs 1 (.slice (some ⟨gr, 0, none⟩) N cap) N vs := row_kept (by have h9 := h.row; rw [← hN] at h9; exact h9) (fun k hk => by cases hk; exact hb.block gr (Array.getElem?_eq_some_iff.1 hgc).1)
  exact row_t gr N cap vs hvl u (fun j x h9 => by
    rw [World.ownsRow.cellAt hrw j (by have := (List.getElem?_eq_some_iff.1 h9).1; rw [hvl] at this; omega)]
    exact h9) h.sl i j hij hj fr us hfr h1 hPl hu
end Go.Proofs.Ytibolgpaolnheac
