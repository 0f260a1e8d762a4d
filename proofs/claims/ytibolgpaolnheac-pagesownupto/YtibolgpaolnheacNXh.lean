import Derived.Test.YtibolgpaolnheacQO2
import Derived.Test.YtibolgpaolnheacQAny
import Derived.Lib.AppendZeros
import Derived.Test.YtibolgpaolnheacQA
namespace Go.Proofs.Ytibolgpaolnheac
set_option linter.unusedVariables false
set_option linter.unusedSimpArgs false
open Go.RowKit Go.Maps
variable {w w' : World} {r S n cap : Nat} {pa : Option Addr} {P : List (List Ent)}
/-- entries of the document's, in a row of the call's own -/
def OwnX (w : World) (B : Nat) (v : Value) (xs : List Ent) : Prop := w.ownsRow B tRe 3 v xs.length (flatE xs)
variable {B : Nat} {v : Value} {xs ys : List Ent}
theorem OwnX.below (h : OwnX w B v xs) (hb : Below w.heap.size w w') : OwnX w' B v xs := by
  refine ⟨h.1, ?_⟩
  rcases h.2 with h0 | ⟨g, cap, cur, e, hB, hg, r⟩
  · exact .inl h0
  · exact .inr ⟨g, cap, cur, e, hB, (hb.block g (Array.getElem?_eq_some_iff.1 hg).1).trans hg, r⟩
theorem OwnX.base {B' : Nat} (h : OwnX w B v xs) (hB : B' ≤ B) : OwnX w B' v xs := by
  refine ⟨h.1, ?_⟩
  rcases h.2 with h0 | ⟨g, cap, cur, e, hB2, r⟩
  · exact .inl h0
  · exact .inr ⟨g, cap, cur, e, Nat.le_trans hB hB2, r⟩
theorem OwnX.nil (w : World) (B : Nat) : OwnX w B (.slice none 0 0) [] := World.ownsRow_nil _ _ _ _
theorem OwnX.val (h : OwnX w B v xs) : ∃ a c, v = .slice a xs.length c ∧ xs.length ≤ c ∧ RdX w a xs := ownX_rd (OwnX.base h (Nat.zero_le _))
theorem flatE_ex (ys : List Ent) (j : Nat) (u : Value) (h : (flatE ys)[j]? = some u) : ∃ i q, ∃ hi : i < ys.length, q < 3 ∧ j = i * 3 + q ∧ (ev ys[i])[q]? = some u := by
  have hl := (List.getElem?_eq_some_iff.1 h).1
  rw [flatE_len] at hl
  refine ⟨j / 3, j % 3, by omega, Nat.mod_lt _ (by decide), by omega, ?_⟩
  rw [← flatE_get ys (j / 3) (j % 3) (by omega) (Nat.mod_lt _ (by decide)), show j / 3 * 3 + j % 3 = j by omega]
  exact h
theorem RdX.cells {b o : Nat} (h : RdX w (some ⟨b, o, none⟩) ys) : ∀ j u, (flatE ys)[j]? = some u → w.cell? ⟨b, o + j, none⟩ = some u := fun j u hu => by
  obtain ⟨i, q, hi, hq, rfl, hv⟩ := flatE_ex ys j u hu
  obtain ⟨b', o', e, hr⟩ := h i hi
  cases e
  rw [← Nat.add_assoc]
  exact hr q u hv
/-- append of entries that can be read -/
theorem wp_appX {ops : Array Oper} {rest : List Oper} {o : Oper} {a : Act} {Q : Exit → Act → World → Prop} (hgd : o.guard = none) (s x : Operand)
    (ho : o.op = .call { callee := .builtin .append, args := #[s, x], argTypes := #[tRs, tRs] }) (B : Nat) (v : Value) (xs ys : List Ent)
    (hs : a.eval s = v) (hown : OwnX w B v xs) (b o2 m c : Nat) (hm : m = ys.length) (hx : a.eval x = .slice (some ⟨b, o2, none⟩) m c) (hc : RdX w (some ⟨b, o2, none⟩) ys)
    (hb : xs.length + ys.length ≤ 5000000000000) (hbase : B ≤ w.heap.size)
    (h : ∀ v' w', OwnX w' B v' (xs ++ ys) → w.grownBy w' v.ownBlock → (v'.ownBlock = v.ownBlock ∨ v'.ownBlock = some w.heap.size) → wpList Try.prog ops Q rest (a.put o.dst v') w') : wpList Try.prog ops Q (o :: rest) a w := by
  subst hm
  obtain ⟨i, hi, hz0, hz1, hz2⟩ := info_parts info_re
  obtain ⟨v', w', hr, h2, h3, -, h5⟩ := run_append_own_at (P := Try.prog) w B tRs o.type tRe i _ 3 24 Try.underlying61 hi hz0 hz1 hz2 rfl (by decide) v xs.length _ hown ⟨b, o2, none⟩ ys.length c (flatE ys) (flatE_len ys) (by
    intro j u hj
    rw [Go.WideShapes.add_plain]
    exact hc.cells j u hj) (flatE_one' ys) (by simp only [maxLen]; omega) (by omega) hbase
  refine Lib.wpList_append_run w hgd s x tRs tRs ho v _ hs hx v' w' hr (h v' w' ?_ h3 h5)
  unfold OwnX
  rw [List.length_append, flatE_app]
  exact h2
theorem rdX_one {N : Nat} {e : Ent} (hN : w.heap[N]? = some (.cells #[.int .u64 (e.st.1 : Int), .int .u64 (e.st.2 : Int), .int .u64 (e.n : Int)] tRe (0, 0))) : RdX w (some ⟨N, 0, none⟩) [e] := fun j hj => by
  obtain rfl : j = 0 := by simp at hj; exact hj
  exact ⟨N, 0, rfl, box_range hN⟩
section
set_option maxRecDepth 20000
set_option maxHeartbeats 6400000
theorem rall_t (h : XV w r S pa n cap P) (hne : ∀ p ∈ P, 0 < p.length) (hl : n ≤ 4398046511104) (hL : P.flatten.length ≤ 4398046511104) :
    Calls Try.prog 30 #[.pointer (some ⟨r, 0, none⟩)] w fun e w' => ∃ v, e = .returned v ∧ OwnX w' w.heap.size v P.flatten ∧ Below w.heap.size w w' := by
  have HV : Hid (XV w r S pa n cap P) := h
  have HNE : Hid (∀ p ∈ P, 0 < p.length) := hne
  have HL : Hid (P.flatten.length ≤ 4398046511104) := hL
  have HLN : Hid (n = P.length) := h.len
  clear h hne hL
  go_enter Try.func30, Try.ntmps30
  go_wp2_with fail
  go_loopw [3, 4] (fun l i wr => ∃ k : Nat, k ≤ n ∧ i = .int .i64 (k : Int) ∧ OwnX wr w.heap.size l (P.take k).flatten ∧ Below w.heap.size w wr) (fun _ i _ => n - (intOf i).toNat)
  case atStart => exact ⟨0, Nat.zero_le _, rfl, OwnX.nil _ _, Below.refl _ _⟩
  case round =>
    obtain ⟨k, hk, rfl, hown, hbel⟩ := hrel
    have HBEL : Hid (Below w.heap.size w wr) := hbel
    have HOW : Hid _ := hown
    have hcw : wr.cell? ⟨r, 1, none⟩ = some (.slice pa n cap) := (HV.out.below hbel).c1
    obtain ⟨al9, cl9, hv9, -⟩ := OwnX.val hown
    obtain ⟨T0, hT0⟩ : ∃ T0, T0 = (P.take k).flatten.length := ⟨_, rfl⟩
    rw [← hT0] at hv9
    subst hv9
    have HT0 : Hid (T0 = (P.take k).flatten.length) := hT0
    clear hbel hown hT0
    by_cases hlt : k < n
    · have hkP : k < P.length := by have := HLN.out; omega
      have hp0 : 0 < P[k].length := HNE.out _ (List.getElem_mem hkP)
      obtain ⟨b, o, rfl, a, c, hc, hkc, hrx⟩ := (HV.out.below HBEL.out).rd k hkP
      obtain ⟨b2, o2, rfl, -⟩ := hrx 0 hp0
      obtain ⟨m, hm⟩ : ∃ m, m = P[k].length := ⟨_, rfl⟩
      rw [← hm] at hc
      have HMM : Hid (m = P[k].length) := hm
      have HRX : Hid (RdX wr (some ⟨b2, o2, none⟩) P[k]) := hrx
      have HFL : Hid ((P.take (k + 1)).flatten = (P.take k).flatten ++ P[k]) := (show _ = _ by rw [List.take_succ_eq_append_getElem hkP, List.flatten_append]; simp)
      have HLE : Hid ((P.take k).flatten.length + P[k].length ≤ 4398046511104) := (show _ ≤ _ by
        have h9 := HL.out
        have h8 : (P.take (k + 1)).flatten.length ≤ P.flatten.length := by
          conv => rhs; rw [← List.take_append_drop (k + 1) P, List.flatten_append, List.length_append]
          omega
        rw [HFL.out, List.length_append] at h8
        omega)
      have hki : (k : Int) < (n : Int) := by omega
      have hk0 : (0 : Int) ≤ (k : Int) := by omega
      clear hm hrx hkc hp0
      go_wp2_with (first | (at_builtin; refine wp_appX rfl _ _ rfl w.heap.size _ (P.take k).flatten P[k] (by rfl) HOW.out b2 o2 _ _ HMM.out (by rfl) HRX.out (by have := HLE.out; omega) HBEL.out.size ?_; intro v2 w2 hown hg hbk; have HOWN2 : Hid _ := hown; have HBEL2 : Hid (Below w.heap.size w w2) := HBEL.out.grown hg HBEL.out.size (fun j9 h9 => (World.ownsRow.lt HOW.out j9 h9).1); clear hown hg hbk))
      go_roundw
      case rel => exact ⟨k + 1, by omega, by go_num, by rw [HFL.out]; exact HOWN2.out, HBEL2.out⟩
      case measure => simp [intOf]; omega
    · obtain rfl : k = n := by omega
      have hkI : ¬ ((k : Int) < (k : Int)) := by omega
      have HFL : Hid ((P.take k).flatten = P.flatten) := (show _ = _ by rw [List.take_of_length_le (by have := HLN.out; omega)])
      go_wp2
      go_ret
      exact ⟨_, rfl, by rw [← HFL.out]; exact HOW.out, HBEL.out⟩
end
end Go.Proofs.Ytibolgpaolnheac
namespace Go.Proofs.Ytibolgpaolnheac
set_option linter.unusedVariables false
set_option linter.unusedSimpArgs false
open Go.RowKit Go.Maps
variable {w w' : World} {r S n cap : Nat} {pa : Option Addr} {P : List (List Ent)}
theorem upF_snoc (l : List Ent) (x : Ent) (s : St) : (l ++ [x]).filter (fun y => !ltS y.st s) = l.filter (fun y => !ltS y.st s) ++ if ltS x.st s then [] else [x] := by
  rw [List.filter_append]
  congr 1
  cases h : ltS x.st s <;> simp [h]
theorem dnF_cons (l : List Ent) (x : Ent) (s : St) : ((x :: l).filter (fun y => !ltS s y.st)).reverse = (l.filter (fun y => !ltS s y.st)).reverse ++ if ltS s x.st then [] else [x] := by
  rw [List.filter_cons]
  cases h : ltS s x.st <;> simp
section
set_option maxRecDepth 20000
set_option maxHeartbeats 6400000
theorem rup_t (h : XV w r S pa n cap P) (hne : ∀ p ∈ P, 0 < p.length) (hl : n ≤ 4398046511104) (hL : P.flatten.length ≤ 4398046511104) (s1 s2 : Nat) :
    Calls Try.prog 33 #[.pointer (some ⟨r, 0, none⟩), sv (s1, s2)] w fun e w' => ∃ v, e = .returned v ∧ OwnX w' w.heap.size v (upL P (s1, s2)) ∧ Below w.heap.size w w' := by
  obtain ⟨w1, hw1⟩ : ∃ X : World, X = w.alloc (.cells #[.int .u64 (s1 : Int), .int .u64 (s2 : Int)] tSt) := ⟨_, rfl⟩
  have hb1 : Below w.heap.size w w1 := by rw [hw1]; exact al (Below.refl _ _) _
  have HB1 : Hid (Below w.heap.size w w1) := hb1
  have HX1 : Hid (w1.rangeAt w.heap.size 0 (sc (s1, s2))) := (show World.rangeAt _ _ _ _ by rw [hw1]; exact box_range (heap_alloc_new w _))
  have HAL : Hid _ := rall_t (h.below hb1) hne hl hL
  have HL : Hid (P.flatten.length ≤ 4398046511104) := hL
  clear h hb1 hne hL
  go_enter Try.func33, Try.ntmps33
  go_wp2_with fail
  rw [← hw1]
  clear hw1
  refine Calls.mono HAL.out ?_
  rintro e w2 ⟨va, rfl, hua, hb2⟩
  obtain ⟨F, hF⟩ : ∃ F, F = P.flatten := ⟨_, rfl⟩
  rw [← hF] at hua HL
  obtain ⟨aa, ca, hva, -, hra⟩ := OwnX.val hua
  obtain ⟨N, hN⟩ : ∃ N, N = F.length := ⟨_, rfl⟩
  rw [← hN] at hva
  subst hva
  have HN : Hid (N = F.length) := hN
  have hNb : N ≤ 4398046511104 := by have := HL.out; omega
  have HRA : Hid (RdX w2 aa F) := hra
  have HB2 : Hid (Below w1.heap.size w1 w2) := hb2
  have HFF : Hid (F = P.flatten) := hF
  clear hua hb2 hra hN hF HAL
  go_wp2_with fail
  go_loopw [5, 7] (fun l i wr => ∃ k : Nat, k ≤ N ∧ i = .int .i64 (k : Int) ∧ OwnX wr w2.heap.size l ((F.take k).filter (fun y => !ltS y.st (s1, s2))) ∧ Below w2.heap.size w2 wr) (fun _ i _ => N - (intOf i).toNat)
  case atStart => exact ⟨0, Nat.zero_le _, rfl, by simpa using OwnX.nil w2 w2.heap.size, Below.refl _ _⟩
  case round =>
    obtain ⟨k, hk, rfl, hown, hbel⟩ := hrel
    have HBEL : Hid (Below w2.heap.size w2 wr) := hbel
    have HOW : Hid (OwnX wr w2.heap.size u5 ((F.take k).filter (fun y => !ltS y.st (s1, s2)))) := hown
    obtain ⟨al9, cl9, hv9, -⟩ := OwnX.val hown
    obtain ⟨T0, hT0⟩ : ∃ T0, T0 = ((F.take k).filter (fun y => !ltS y.st (s1, s2))).length := ⟨_, rfl⟩
    have HT0 : Hid (T0 ≤ N) := (show T0 ≤ N by rw [hT0]; refine Nat.le_trans (List.length_filter_le _ _) ?_; rw [List.length_take]; omega)
    have HTE : Hid (T0 = ((F.take k).filter (fun y => !ltS y.st (s1, s2))).length) := hT0
    rw [← hT0] at hv9
    subst hv9
    clear hbel hown hT0
    by_cases hlt : k < N
    · have hkN : k < N := hlt
      have hki : (k : Int) < (N : Int) := by omega
      have hkF : k < F.length := by have := HN.out; omega
      obtain ⟨b, o, rfl, hr⟩ := HRA.out k hkF
      obtain ⟨t1, t2, tn, htx⟩ : ∃ t1 t2 tn, F[k] = ⟨(t1, t2), tn⟩ := ⟨_, _, _, rfl⟩
      rw [htx] at hr
      have HTX : Hid (F[k] = ⟨(t1, t2), tn⟩) := htx
      have HRX : Hid (∀ u, Below w2.heap.size w2 u → u.rangeAt b (o + k * 3) (ev ⟨(t1, t2), tn⟩)) := fun u hu => rangeAt_below hr hu
      have hl3 : ∀ u, Below w2.heap.size w2 u → (Instr.loadAt tSt (.pointer (some ⟨w.heap.size, 0, none⟩))).run Try.prog u = .ok (sv (s1, s2)) u := fun u hu => load_st u _ _ (s1, s2) (rangeAt_below HX1.out (below_next HB2.out hu))
      have hl4 : ∀ u, Below w2.heap.size w2 u → (Instr.loadAt tSt (.pointer (some ⟨b, o + k * 3, none⟩))).run Try.prog u = .ok (sv (t1, t2)) u := fun u hu => load_st u _ _ (t1, t2) (range_st (e := ⟨(t1, t2), tn⟩) (HRX.out u hu))
      have hk0 : (0 : Int) ≤ (k : Int) := by omega
      clear hr htx
      go_wp2_with fail
      refine wp_region_held_drew (S := (fun u => Below w2.heap.size w2 u)) (by kernel_rfl) (by first | exact HBEL.out.drew | assumption) (fun hHeld => ?_)
      refine take_at (i := 0) 16 (v := ?_) rfl rfl (by kernel_rfl) (by kernel_rfl) (by kernel_rfl) (fun _ _ _ h => h) (by rfl) ?_ hHeld ?_
      rotate_left
      · (intro w hSw; (try dsimp only at hSw); go_simp; try with_reducible rfl)
      simp only [Act.put, List.setIfInBounds_toArray, List.set_cons_zero, List.set_cons_succ]
      refine take_at (i := 1) 17 (v := ?_) rfl rfl (by kernel_rfl) (by kernel_rfl) (by kernel_rfl) (fun _ _ _ h => h) (by rfl) ?_ hHeld ?_
      rotate_left
      · (intro w hSw; (try dsimp only at hSw); go_simp; try with_reducible rfl)
      simp only [Act.put, List.setIfInBounds_toArray, List.set_cons_zero, List.set_cons_succ]
      refine take_at (i := 2) 18 (v := ?_) rfl rfl (by kernel_rfl) (by kernel_rfl) (by kernel_rfl) (fun _ _ _ h => h) (by rfl) ?_ hHeld ?_
      rotate_left
      · (intro w hSw; (try dsimp only at hSw); go_simp; try with_reducible rfl)
      simp only [Act.put, List.setIfInBounds_toArray, List.set_cons_zero, List.set_cons_succ]
      refine take_at (i := 3) 19 (v := ?_) rfl rfl (by kernel_rfl) (by kernel_rfl) (by kernel_rfl) (fun _ _ _ h => h) (by rfl) ?_ hHeld ?_
      rotate_left
      · (intro w hSw; (try dsimp only at hSw); go_simp; try with_reducible rfl)
      simp only [Act.put, List.setIfInBounds_toArray, List.set_cons_zero, List.set_cons_succ]
      refine take_at (i := 4) 20 (v := sv (t1, t2)) rfl rfl (by kernel_rfl) (by kernel_rfl) (by kernel_rfl) (fun _ _ _ h => h) (by rfl) ?_ hHeld ?_
      · (intro w hSw; refine exec_load (by rfl) ?_; exact hl4 w hSw)
      simp only [Act.put, List.setIfInBounds_toArray, List.set_cons_zero, List.set_cons_succ]
      refine take_at (i := 5) 21 (v := sv (s1, s2)) rfl rfl (by kernel_rfl) (by kernel_rfl) (by kernel_rfl) (fun _ _ _ h => h) (by rfl) ?_ hHeld ?_
      · (intro w hSw; refine exec_load (by rfl) ?_; exact hl3 w hSw)
      simp only [Act.put, List.setIfInBounds_toArray, List.set_cons_zero, List.set_cons_succ]
      refine run_at (i := 6) rfl (by kernel_rfl) (by rfl) (fun K hK => ?_)
      simp only [List.getElem_toArray, List.getElem_cons_zero, List.getElem_cons_succ]
      go_simp
      (go_at_call 56; refine Calls.mono (rless_t (t1, t2) (s1, s2) _) ?_; rintro e w3 ⟨rfl, hb3⟩; have HB3 : Hid (Below wr.heap.size wr w3) := below_next (Below.refl _ _).drew hb3; have hb4 : Below w2.heap.size w2 w3 := below_next HBEL.out HB3.out; clear hb3; obtain ⟨q, hq⟩ : ∃ q : Bool, q = ltS (t1, t2) (s1, s2) := ⟨_, rfl⟩; rw [← hq]; have HQ : Hid (q = ltS (t1, t2) (s1, s2)) := hq; clear hq)
      go_wp2_with fail
      refine hK.out _ _ (by first | exact HBEL.out.drew | assumption) ?_
      clear hK K
      intro hHeld2
      clear hHeld
      have hHeld := hHeld2
      clear hHeld2
      try simp only [Act.put, List.setIfInBounds_toArray, List.set_cons_zero, List.set_cons_succ]
      refine take_at (i := 7) 23 (v := ?_) rfl rfl (by kernel_rfl) (by kernel_rfl) (by kernel_rfl) (fun _ _ _ h => h) (by rfl) ?_ hHeld ?_
      rotate_left
      · (intro w hSw; (try dsimp only at hSw); go_simp; try with_reducible rfl)
      simp only [Act.put, List.setIfInBounds_toArray, List.set_cons_zero, List.set_cons_succ]
      refine wpAnyH_done (by kernel_rfl) ?_ _
      have HB4 : Hid (Below w2.heap.size w2 w3) := hb4
      have HOW3 : Hid (OwnX w3 w2.heap.size (.slice al9 T0 cl9) ((F.take k).filter (fun y => !ltS y.st (s1, s2)))) := OwnX.below HOW.out HB3.out
      clear hb4 hl3 hl4
      cases q
      case true =>
        have HRES : Hid ((F.take (k + 1)).filter (fun y => !ltS y.st (s1, s2)) = (F.take k).filter (fun y => !ltS y.st (s1, s2))) := (show _ = _ by rw [List.take_succ_eq_append_getElem hkF, upF_snoc]; rw [HTX.out, if_pos HQ.out.symm, List.append_nil])
        go_wp2
        go_roundw
        case rel => exact ⟨k + 1, by omega, by go_num, by rw [HRES.out]; exact HOW3.out, HB4.out⟩
        case measure => (simp [intOf]; try omega)
      case false =>
        have HRES : Hid ((F.take (k + 1)).filter (fun y => !ltS y.st (s1, s2)) = (F.take k).filter (fun y => !ltS y.st (s1, s2)) ++ [⟨(t1, t2), tn⟩]) := (show _ = _ by rw [List.take_succ_eq_append_getElem hkF, upF_snoc]; rw [HTX.out, if_neg (by rw [← HQ.out]; decide)])
        have HLE : Hid (((F.take k).filter (fun y => !ltS y.st (s1, s2))).length + [(⟨(t1, t2), tn⟩ : Ent)].length ≤ 5000000000000) := (show _ ≤ _ by have h9 := HTE.out; have h8 := HT0.out; rw [← h9]; simp only [List.length_singleton]; omega)
        go_wp2_with (first | (refine wpList_load_mid rfl tRe _ rfl b (o + k * 3) rfl (ev ⟨(t1, t2), tn⟩) _ (HRX.out _ HB4.out) Try.underlying94 rfl info_re3 ?_) | (at_builtin; refine wp_appX rfl _ _ rfl w2.heap.size _ ((F.take k).filter (fun y => !ltS y.st (s1, s2))) [⟨(t1, t2), tn⟩] (by rfl) (OwnX.below HOW3.out (al (Below.refl _ _) _)) _ 0 1 1 rfl (by rfl) (rdX_one (e := ⟨(t1, t2), tn⟩) (heap_alloc_new w3 _)) HLE.out (by have := HB4.out.size; simp; omega) ?_; intro v5 w5 hown hg hbk; have HOWN5 : Hid _ := hown; have HBEL5 : Hid (Below w2.heap.size w2 w5) := (HB4.out.alloc HB4.out.size _).grown hg (by have := HB4.out.size; simp; omega) (fun j9 h9 => (World.ownsRow.lt HOW3.out j9 h9).1); clear hown hg hbk))
        go_roundw
        case rel => exact ⟨k + 1, by omega, by go_num, by rw [HRES.out]; exact HOWN5.out, HBEL5.out⟩
        case measure => (simp [intOf]; try omega)
    · obtain rfl : k = N := by omega
      have hkI : ¬ ((k : Int) < (k : Int)) := by omega
      have HRES : Hid ((F.take k).filter (fun y => !ltS y.st (s1, s2)) = upL P (s1, s2)) := (show _ = _ by rw [List.take_of_length_le (by have := HN.out; omega), HFF.out]; rfl)
      go_wp2
      go_ret
      exact ⟨_, rfl, by rw [← HRES.out]; exact OwnX.base HOW.out (Nat.le_trans HB1.out.size HB2.out.size), below_next HB1.out (below_next HB2.out HBEL.out)⟩
theorem rdown_t (h : XV w r S pa n cap P) (hne : ∀ p ∈ P, 0 < p.length) (hl : n ≤ 4398046511104) (hL : P.flatten.length ≤ 4398046511104) (s1 s2 : Nat) :
    Calls Try.prog 34 #[.pointer (some ⟨r, 0, none⟩), sv (s1, s2)] w fun e w' => ∃ v, e = .returned v ∧ OwnX w' w.heap.size v (downL P (s1, s2)) ∧ Below w.heap.size w w' := by
  obtain ⟨w1, hw1⟩ : ∃ X : World, X = w.alloc (.cells #[.int .u64 (s1 : Int), .int .u64 (s2 : Int)] tSt) := ⟨_, rfl⟩
  have hb1 : Below w.heap.size w w1 := by rw [hw1]; exact al (Below.refl _ _) _
  have HB1 : Hid (Below w.heap.size w w1) := hb1
  have HX1 : Hid (w1.rangeAt w.heap.size 0 (sc (s1, s2))) := (show World.rangeAt _ _ _ _ by rw [hw1]; exact box_range (heap_alloc_new w _))
  have HAL : Hid _ := rall_t (h.below hb1) hne hl hL
  have HL : Hid (P.flatten.length ≤ 4398046511104) := hL
  clear h hb1 hne hL
  go_enter Try.func34, Try.ntmps34
  go_wp2_with fail
  rw [← hw1]
  clear hw1
  refine Calls.mono HAL.out ?_
  rintro e w2 ⟨va, rfl, hua, hb2⟩
  obtain ⟨F, hF⟩ : ∃ F, F = P.flatten := ⟨_, rfl⟩
  rw [← hF] at hua HL
  obtain ⟨aa, ca, hva, -, hra⟩ := OwnX.val hua
  obtain ⟨N, hN⟩ : ∃ N, N = F.length := ⟨_, rfl⟩
  rw [← hN] at hva
  subst hva
  have HN : Hid (N = F.length) := hN
  have hNb : N ≤ 4398046511104 := by have := HL.out; omega
  have HRA : Hid (RdX w2 aa F) := hra
  have HB2 : Hid (Below w1.heap.size w1 w2) := hb2
  have HFF : Hid (F = P.flatten) := hF
  clear hua hb2 hra hN hF HAL
  go_wp2_with fail
  go_loopw [5, 7] (fun l i wr => ∃ t : Nat, t ≤ N ∧ i = .int .i64 (((N - t : Nat) : Int) - 1) ∧ OwnX wr w2.heap.size l (((F.drop (N - t)).filter (fun y => !ltS (s1, s2) y.st)).reverse) ∧ Below w2.heap.size w2 wr) (fun _ i _ => (intOf i + 1).toNat)
  case atStart => exact ⟨0, Nat.zero_le _, by go_num, by rw [Nat.sub_zero, HN.out, List.drop_length]; exact OwnX.nil w2 w2.heap.size, Below.refl _ _⟩
  case round =>
    obtain ⟨t, hk, rfl, hown, hbel⟩ := hrel
    have HBEL : Hid (Below w2.heap.size w2 wr) := hbel
    have HOW : Hid (OwnX wr w2.heap.size u5 (((F.drop (N - t)).filter (fun y => !ltS (s1, s2) y.st)).reverse)) := hown
    obtain ⟨al9, cl9, hv9, -⟩ := OwnX.val hown
    obtain ⟨T0, hT0⟩ : ∃ T0, T0 = (((F.drop (N - t)).filter (fun y => !ltS (s1, s2) y.st)).reverse).length := ⟨_, rfl⟩
    have HT0 : Hid (T0 ≤ N) := (show T0 ≤ N by rw [hT0]; rw [List.length_reverse]; refine Nat.le_trans (List.length_filter_le _ _) ?_; rw [List.length_drop]; have := HN.out; omega)
    have HTE : Hid (T0 = (((F.drop (N - t)).filter (fun y => !ltS (s1, s2) y.st)).reverse).length) := hT0
    rw [← hT0] at hv9
    subst hv9
    clear hbel hown hT0
    by_cases hlt : t < N
    · obtain ⟨k, hk9⟩ : ∃ k, k = N - t - 1 := ⟨_, rfl⟩
      have HK9 : Hid (N - t = k + 1 ∧ N - (t + 1) = k) := (show _ ∧ _ by omega)
      have hkN : k < N := by omega
      have hki : (k : Int) < (N : Int) := by omega
      rw [HK9.out.1] at HOW ⊢
      have hke : (((k + 1 : Nat) : Int) - 1) = (k : Int) := by omega
      rw [hke]
      clear hk9 hke
      have hkF : k < F.length := by have := HN.out; omega
      obtain ⟨b, o, rfl, hr⟩ := HRA.out k hkF
      obtain ⟨t1, t2, tn, htx⟩ : ∃ t1 t2 tn, F[k] = ⟨(t1, t2), tn⟩ := ⟨_, _, _, rfl⟩
      rw [htx] at hr
      have HTX : Hid (F[k] = ⟨(t1, t2), tn⟩) := htx
      have HRX : Hid (∀ u, Below w2.heap.size w2 u → u.rangeAt b (o + k * 3) (ev ⟨(t1, t2), tn⟩)) := fun u hu => rangeAt_below hr hu
      have hl3 : ∀ u, Below w2.heap.size w2 u → (Instr.loadAt tSt (.pointer (some ⟨w.heap.size, 0, none⟩))).run Try.prog u = .ok (sv (s1, s2)) u := fun u hu => load_st u _ _ (s1, s2) (rangeAt_below HX1.out (below_next HB2.out hu))
      have hl4 : ∀ u, Below w2.heap.size w2 u → (Instr.loadAt tSt (.pointer (some ⟨b, o + k * 3, none⟩))).run Try.prog u = .ok (sv (t1, t2)) u := fun u hu => load_st u _ _ (t1, t2) (range_st (e := ⟨(t1, t2), tn⟩) (HRX.out u hu))
      have hk0 : (0 : Int) ≤ (k : Int) := by omega
      clear hr htx
      go_wp2_with fail
      refine wp_region_held_drew (S := (fun u => Below w2.heap.size w2 u)) (by kernel_rfl) (by first | exact HBEL.out.drew | assumption) (fun hHeld => ?_)
      refine take_at (i := 0) 17 (v := sv (s1, s2)) rfl rfl (by kernel_rfl) (by kernel_rfl) (by kernel_rfl) (fun _ _ _ h => h) (by rfl) ?_ hHeld ?_
      · (intro w hSw; refine exec_load (by rfl) ?_; exact hl3 w hSw)
      simp only [Act.put, List.setIfInBounds_toArray, List.set_cons_zero, List.set_cons_succ]
      refine take_at (i := 1) 18 (v := ?_) rfl rfl (by kernel_rfl) (by kernel_rfl) (by kernel_rfl) (fun _ _ _ h => h) (by rfl) ?_ hHeld ?_
      rotate_left
      · (intro w hSw; (try dsimp only at hSw); go_simp; try with_reducible rfl)
      simp only [Act.put, List.setIfInBounds_toArray, List.set_cons_zero, List.set_cons_succ]
      refine take_at (i := 2) 19 (v := ?_) rfl rfl (by kernel_rfl) (by kernel_rfl) (by kernel_rfl) (fun _ _ _ h => h) (by rfl) ?_ hHeld ?_
      rotate_left
      · (intro w hSw; (try dsimp only at hSw); go_simp; try with_reducible rfl)
      simp only [Act.put, List.setIfInBounds_toArray, List.set_cons_zero, List.set_cons_succ]
      refine take_at (i := 3) 20 (v := ?_) rfl rfl (by kernel_rfl) (by kernel_rfl) (by kernel_rfl) (fun _ _ _ h => h) (by rfl) ?_ hHeld ?_
      rotate_left
      · (intro w hSw; (try dsimp only at hSw); go_simp; try with_reducible rfl)
      simp only [Act.put, List.setIfInBounds_toArray, List.set_cons_zero, List.set_cons_succ]
      refine take_at (i := 4) 21 (v := ?_) rfl rfl (by kernel_rfl) (by kernel_rfl) (by kernel_rfl) (fun _ _ _ h => h) (by rfl) ?_ hHeld ?_
      rotate_left
      · (intro w hSw; (try dsimp only at hSw); go_simp; try with_reducible rfl)
      simp only [Act.put, List.setIfInBounds_toArray, List.set_cons_zero, List.set_cons_succ]
      refine take_at (i := 5) 22 (v := sv (t1, t2)) rfl rfl (by kernel_rfl) (by kernel_rfl) (by kernel_rfl) (fun _ _ _ h => h) (by rfl) ?_ hHeld ?_
      · (intro w hSw; refine exec_load (by rfl) ?_; exact hl4 w hSw)
      simp only [Act.put, List.setIfInBounds_toArray, List.set_cons_zero, List.set_cons_succ]
      refine run_at (i := 6) rfl (by kernel_rfl) (by rfl) (fun K hK => ?_)
      simp only [List.getElem_toArray, List.getElem_cons_zero, List.getElem_cons_succ]
      go_simp
      (go_at_call 56; refine Calls.mono (rless_t (s1, s2) (t1, t2) _) ?_; rintro e w3 ⟨rfl, hb3⟩; have HB3 : Hid (Below wr.heap.size wr w3) := below_next (Below.refl _ _).drew hb3; have hb4 : Below w2.heap.size w2 w3 := below_next HBEL.out HB3.out; clear hb3; obtain ⟨q, hq⟩ : ∃ q : Bool, q = ltS (s1, s2) (t1, t2) := ⟨_, rfl⟩; rw [← hq]; have HQ : Hid (q = ltS (s1, s2) (t1, t2)) := hq; clear hq)
      go_wp2_with fail
      refine hK.out _ _ (by first | exact HBEL.out.drew | assumption) ?_
      clear hK K
      intro hHeld2
      clear hHeld
      have hHeld := hHeld2
      clear hHeld2
      try simp only [Act.put, List.setIfInBounds_toArray, List.set_cons_zero, List.set_cons_succ]
      refine take_at (i := 7) 24 (v := ?_) rfl rfl (by kernel_rfl) (by kernel_rfl) (by kernel_rfl) (fun _ _ _ h => h) (by rfl) ?_ hHeld ?_
      rotate_left
      · (intro w hSw; (try dsimp only at hSw); go_simp; try with_reducible rfl)
      simp only [Act.put, List.setIfInBounds_toArray, List.set_cons_zero, List.set_cons_succ]
      refine wpAnyH_done (by kernel_rfl) ?_ _
      have HB4 : Hid (Below w2.heap.size w2 w3) := hb4
      have HOW3 : Hid (OwnX w3 w2.heap.size (.slice al9 T0 cl9) (((F.drop (k + 1)).filter (fun y => !ltS (s1, s2) y.st)).reverse)) := OwnX.below HOW.out HB3.out
      clear hb4 hl3 hl4
      cases q
      case true =>
        have HRES : Hid (((F.drop k).filter (fun y => !ltS (s1, s2) y.st)).reverse = ((F.drop (k + 1)).filter (fun y => !ltS (s1, s2) y.st)).reverse) := (show _ = _ by rw [List.drop_eq_getElem_cons hkF, dnF_cons]; rw [HTX.out, if_pos HQ.out.symm, List.append_nil])
        go_wp2
        go_roundw
        case rel => exact ⟨t + 1, by omega, by rw [HK9.out.2]; try go_num, by rw [HK9.out.2, HRES.out]; exact HOW3.out, HB4.out⟩
        case measure => (simp [intOf]; try omega)
      case false =>
        have HRES : Hid (((F.drop k).filter (fun y => !ltS (s1, s2) y.st)).reverse = ((F.drop (k + 1)).filter (fun y => !ltS (s1, s2) y.st)).reverse ++ [⟨(t1, t2), tn⟩]) := (show _ = _ by rw [List.drop_eq_getElem_cons hkF, dnF_cons]; rw [HTX.out, if_neg (by rw [← HQ.out]; decide)])
        have HLE : Hid ((((F.drop (k + 1)).filter (fun y => !ltS (s1, s2) y.st)).reverse).length + [(⟨(t1, t2), tn⟩ : Ent)].length ≤ 5000000000000) := (show _ ≤ _ by have h9 := HTE.out; have h8 := HT0.out; rw [HK9.out.1] at h9; rw [← h9]; simp only [List.length_singleton]; omega)
        go_wp2_with (first | (refine wpList_load_mid rfl tRe _ rfl b (o + k * 3) rfl (ev ⟨(t1, t2), tn⟩) _ (HRX.out _ HB4.out) Try.underlying94 rfl info_re3 ?_) | (at_builtin; refine wp_appX rfl _ _ rfl w2.heap.size _ (((F.drop (k + 1)).filter (fun y => !ltS (s1, s2) y.st)).reverse) [⟨(t1, t2), tn⟩] (by rfl) (OwnX.below HOW3.out (al (Below.refl _ _) _)) _ 0 1 1 rfl (by rfl) (rdX_one (e := ⟨(t1, t2), tn⟩) (heap_alloc_new w3 _)) HLE.out (by have := HB4.out.size; simp; omega) ?_; intro v5 w5 hown hg hbk; have HOWN5 : Hid _ := hown; have HBEL5 : Hid (Below w2.heap.size w2 w5) := (HB4.out.alloc HB4.out.size _).grown hg (by have := HB4.out.size; simp; omega) (fun j9 h9 => (World.ownsRow.lt HOW3.out j9 h9).1); clear hown hg hbk))
        go_roundw
        case rel => exact ⟨t + 1, by omega, by rw [HK9.out.2]; try go_num, by rw [HK9.out.2, HRES.out]; exact HOWN5.out, HBEL5.out⟩
        case measure => (simp [intOf]; try omega)
    · obtain rfl : t = N := by omega
      have HRES : Hid (((F.drop (t - t)).filter (fun y => !ltS (s1, s2) y.st)).reverse = downL P (s1, s2)) := (show _ = _ by rw [Nat.sub_self, List.drop_zero, HFF.out]; rfl)
      have hke : (((t - t : Nat) : Int) - 1) = -1 := by omega
      rw [hke]
      go_wp2
      go_ret
      exact ⟨_, rfl, by rw [← HRES.out]; exact OwnX.base HOW.out (Nat.le_trans HB1.out.size HB2.out.size), below_next HB1.out (below_next HB2.out HBEL.out)⟩
end
end Go.Proofs.Ytibolgpaolnheac
namespace Go.Proofs.Ytibolgpaolnheac
set_option linter.unusedVariables false
set_option linter.unusedSimpArgs false
open Go.RowKit Go.Maps
variable {w w' : World} {r S n cap : Nat} {pa : Option Addr} {P : List (List Ent)}
section
set_option maxRecDepth 20000
set_option maxHeartbeats 6400000
theorem rget_t (h : XV w r S pa n cap P) (hsp : SP P) (hl : n ≤ 4398046511104) (hlp : ∀ p ∈ P, p.length ≤ 100) (s1 s2 : Nat) :
    Calls Try.prog 29 #[.pointer (some ⟨r, 0, none⟩), sv (s1, s2)] w fun e w' => ∃ (p i : Nat) (ok : Bool) (v : Nat), e = .returned (.tuple #[.int .u64 (v : Int), .bool ok]) ∧ PlaceIs P (s1, s2) p i ok ∧ (ok = false → v = 0) ∧ (ok = true → ∃ h : i < (P.getD p []).length, v = (P.getD p [])[i].n) ∧ Below w.heap.size w w' := by
  have HV : Hid (XV w r S pa n cap P) := h
  have HPC : Hid (∀ ob, Calls Try.prog 31 #[.pointer (some ⟨r, 0, none⟩), sv (s1, s2)] (w.alloc ob) fun e w' => ∃ (p i : Nat) (ok : Bool), e = .returned (.tuple #[.int .i64 (p : Int), .int .i64 (i : Int), .bool ok]) ∧ PlaceIs P (s1, s2) p i ok ∧ Below (w.alloc ob).heap.size (w.alloc ob) w') := fun ob => rplace_t (h.below (al (Below.refl _ _) _)) hsp hl hlp s1 s2
  have HSP : Hid (SP P) := hsp
  have HLN : Hid (n = P.length) := h.len
  clear h hsp hlp
  go_enter Try.func29, Try.ntmps29
  go_wp2_with fail
  refine Calls.mono (HPC.out _) ?_
  rintro e w2 ⟨p, i, ok, rfl, hpl, hb⟩
  have HB2 : Hid (Below w.heap.size w w2) := below_next (al (Below.refl _ _) _) hb
  have HPI : Hid (PlaceIs P (s1, s2) p i ok) := hpl
  clear hb hpl
  cases ok
  case false =>
    go_wp2
    refine bodyPost_ret (results_tmp2 rfl _ _ _) rfl ?_
    exact ⟨p, i, false, 0, rfl, HPI.out, fun _ => rfl, fun h9 => (by cases h9), HB2.out⟩
  case true =>
    have hne : P ≠ [] := fun e => by have := HPI.out.nil e; simp at this
    have hpP := HPI.out.lt hne
    have hiP : i < P[p].length := (HPI.out.cut HSP.out hpP).2.1 rfl
    have eP : P.getD p [] = P[p] := by simp [List.getD, hpP]
    obtain ⟨b, o, rfl, a, c, hc, hkc, hrx⟩ := (HV.out.below HB2.out).rd p hpP
    obtain ⟨b2, o2, rfl, hr2⟩ := hrx i hiP
    have hcg := (HV.out.below HB2.out).c1
    obtain ⟨K0, hK0⟩ : ∃ K0, K0 = P[p].length := ⟨_, rfl⟩
    rw [← hK0] at hc
    obtain ⟨vn, hvn⟩ : ∃ vn, vn = P[p][i].n := ⟨_, rfl⟩
    have hq2 := hr2 2 _ rfl
    simp only [ev, Ent.v] at hq2
    rw [← hvn] at hq2
    have hpi : (p : Int) < (n : Int) := by have := HLN.out; omega
    have hp0 : (0 : Int) ≤ (p : Int) := by omega
    have hii : (i : Int) < (K0 : Int) := by omega
    have hi0 : (0 : Int) ≤ (i : Int) := by omega
    have HVN : Hid (vn = P[p][i].n) := hvn
    clear hr2 hrx hkc hK0 hvn
    go_wp2
    refine bodyPost_ret (results_tmp2 rfl _ _ _) rfl ?_
    exact ⟨p, i, true, vn, rfl, HPI.out, (fun h => by cases h), fun _ => ⟨by rw [eP]; exact hiP, by rw [HVN.out]; congr 1; simp only [eP]⟩, HB2.out⟩
theorem rpages_t (h : XV w r S pa n cap P) (hl : n ≤ 4398046511104) :
    Calls Try.prog 10 #[.pointer (some ⟨r, 0, none⟩)] w fun e w' => ∃ v, e = .returned v ∧ w'.ownsRow w.heap.size 3 1 v n (cnt P) ∧ Below w.heap.size w w' := by
  have HV : Hid (XV w r S pa n cap P) := h
  have HN : Hid (n = P.length) := h.len
  obtain ⟨i0, hi, hz0, hz1, hz2⟩ := info_parts info_int
  clear h
  go_enter Try.func10, Try.ntmps10
  go_wp2
  go_loopw [3, 4] (fun v i wr => ∃ k : Nat, k ≤ n ∧ i = .int .i64 (k : Int) ∧ wr.ownsRow w.heap.size 3 1 v k (cnt (P.take k)) ∧ Below w.heap.size w wr) (fun _ i _ => n - (intOf i).toNat)
  case atStart => exact ⟨0, Nat.zero_le _, rfl, World.ownsRow_nil _ _ _ _, Below.refl _ _⟩
  case round =>
    obtain ⟨k, hk, rfl, hown, hbw⟩ := hrel
    have HBW : Hid (Below w.heap.size w wr) := hbw
    by_cases hlt : k < n
    · have hkP : k < P.length := by have := HN.out; omega
      obtain ⟨b, o, hpa, a, c, hcp, hkc, -⟩ := (HV.out.below hbw).rd k hkP
      subst hpa
      obtain ⟨K0, hK0⟩ : ∃ K0, K0 = P[k].length := ⟨_, rfl⟩
      rw [← hK0] at hcp
      have HE : Hid (cnt (P.take (k + 1)) = cnt (P.take k) ++ [.int .i64 (K0 : Int)]) := (show cnt (P.take (k + 1)) = cnt (P.take k) ++ [.int .i64 (K0 : Int)] by rw [List.take_succ_eq_append_getElem hkP, hK0]; unfold cnt; rw [List.map_append]; rfl)
      obtain ⟨X, hX⟩ : ∃ X : World, X = wr.alloc (.cells #[.int .i64 (K0 : Int)] 3) := ⟨_, rfl⟩
      have hbX : Below wr.heap.size wr X := by rw [hX]; exact al (Below.refl _ _) _
      have HXG : Hid (X.heap[wr.heap.size]? = some (.cells #[.int .i64 (K0 : Int)] 3 (0, 0))) := (show X.heap[wr.heap.size]? = some (.cells #[.int .i64 (K0 : Int)] 3 (0, 0)) by rw [hX]; exact heap_alloc_new wr _)
      obtain ⟨V, hV⟩ : ∃ V, V = u3 := ⟨_, rfl⟩
      have HOX : Hid (X.ownsRow w.heap.size 3 1 u3 k (cnt (P.take k))) := (show X.ownsRow w.heap.size 3 1 u3 k (cnt (P.take k)) from ⟨hown.1, by
        rcases hown.2 with h0 | ⟨g', cap', cur, e, hB, hg', r⟩
        · exact .inl h0
        · exact .inr ⟨g', cap', cur, e, hB, (hbX.block g' (Array.getElem?_eq_some_iff.1 hg').1).trans hg', r⟩⟩)
      have HBX : Hid (Below w.heap.size w X) := below_next hbw hbX
      have hki : (k : Int) < (n : Int) := by omega
      have hk0 : (0 : Int) ≤ (k : Int) := by omega
      have hcw := (HV.out.below HBW.out).c1
      clear hK0 hbX hown hbw hkc hV
      go_wp2_with (at_builtin; rw [← hX]; refine wpList_append_own_at _ rfl _ _ 40 rfl w.heap.size 3 i0 (.int .i64 0) 1 8 Try.underlying40 hi hz0 hz1 hz2 rfl (by decide) _ _ _ rfl HOX.out ⟨wr.heap.size, 0, none⟩ 1 1 [.int .i64 (K0 : Int)] rfl rfl (World.news_of_block HXG.out) (by intro u hu; simp at hu; subst hu; rfl) (by simp only [maxLen]; omega) (by omega) HBX.out.size ?_; intro v' w1 hown' hgrow _ _; have HO1 : Hid _ := hown'; have HG1 : Hid _ := hgrow; clear hown' hgrow)
      go_roundw
      case rel => exact ⟨k + 1, by omega, by go_num, by rw [HE.out]; exact HO1.out, HBX.out.grown HG1.out HBX.out.size (fun j hj => (World.ownsRow.lt HOX.out j hj).1)⟩
      case measure => simp [intOf]; omega
    · obtain rfl : k = n := by omega
      have HOW : Hid _ := hown
      have hcw := (HV.out.below HBW.out).c1
      have hkI : ¬ ((k : Int) < (k : Int)) := by omega
      clear hown
      go_wp2
      go_ret
      have h9 := HOW.out
      rw [HN.out, List.take_length] at h9
      rw [HN.out]
      exact ⟨_, rfl, h9, HBW.out⟩
end
end Go.Proofs.Ytibolgpaolnheac
