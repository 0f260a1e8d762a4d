import Derived.Test.YtibolgpaolnheacQRg
import Derived.Test.YtibolgpaolnheacQLt
import Derived.Test.YtibolgpaolnheacQFa
namespace Go.Proofs.Ytibolgpaolnheac
set_option linter.unusedVariables false
set_option linter.unusedSimpArgs false
open Go.RowKit Go.Shelf
attribute [local go_sem] Oper.semAt_some
theorem results_cb {fn : Func} {p : Tmp} (h : fn.results = #[.cell p 4]) (tmps : Array Value) {W : World} {B : Nat} {ok : Bool} (hB : W.heap[B]? = some (.cells #[.bool ok] 4 (0, 0)))
    (h1 : tmps.getD p undef = .pointer (some ⟨B, 0, none⟩)) : (results fn tmps).run Try.prog W = .ok (.bool ok) W := by
  have h1' : tmps[p]?.getD undef = .pointer (some ⟨B, 0, none⟩) := by simpa using h1
  have c3 : W.cell? ⟨B, 0, none⟩ = some (.bool ok) := by rw [cell_of_row _ _ _ _ _ _ hB]; rfl
  have e3 : (loadVar 4 ⟨B, 0, none⟩).run Try.prog W = .ok (.bool ok) W := by go_simp
  simp only [results, h]
  simp [Sem.run_bind, Result.andThen, h1', asAddr, e3]
/-- what Up tells, by the whole row -/
theorem up_list {P : List (List Ent)} {s : St} {p i : Nat} {ok : Bool} (h : PlaceIs P s p i ok) (hsp : SP P) (hp : p < P.length) : (P.drop p).flatten.drop i = P.flatten.filter (fun x => !ltS x.st s) := by
  obtain ⟨hil, hok, hc⟩ := h.cut hsp hp
  rw [hc.eq, List.filter_append, List.filter_append, filt_no (fun x hx => by rw [hc.lo x hx]; rfl), filt_all (fun x hx => by rw [hc.mid x hx, ltS_irrefl]; rfl), filt_all (fun x hx => by rw [ltS_asymm (hc.hi x hx)]; rfl), List.nil_append]
  rw [List.drop_eq_getElem_cons hp, List.flatten_cons, List.drop_append_of_le_length hil]
  cases ok
  · simp
  · simp only [if_true]
    rw [← List.append_assoc, show P[p].drop (i + 1) = (P[p].drop i).drop 1 by rw [List.drop_drop], List.take_append_drop]
theorem up_all {P : List (List Ent)} {p i : Nat} {ok : Bool} (h : PlaceIs P (0, 0) p i ok) (hsp : SP P) (hp : p < P.length) : (P.drop p).flatten.drop i = P.flatten := by
  rw [up_list h hsp hp]
  refine filt_all fun x _ => ?_
  have : ltS x.st (0, 0) = false := by rw [ltS_no]; simp
  rw [this]; rfl
theorem pre_snoc {L pre : List Ent} {x : Ent} (h : pre <+: L) (hk : pre.length < L.length) : pre ++ [x] <+: L ↔ L[pre.length] = x := by
  obtain ⟨t, rfl⟩ := h
  cases t with
  | nil => simp at hk
  | cons y t =>
    rw [List.prefix_append_right_inj]
    simp
    exact eq_comm
end Go.Proofs.Ytibolgpaolnheac
namespace Go.Proofs.Ytibolgpaolnheac
set_option linter.unusedVariables false
set_option linter.unusedSimpArgs false
open Go.RowKit Go.Shelf
attribute [local go_sem] Oper.semAt_some
theorem RdP.take {w : World} {pa : Option Addr} {P : List (List Ent)} (h : RdP w pa P) (k : Nat) : RdP w pa (P.take k) := fun j hj => by
  have hj' : j < P.length := by have := hj; rw [List.length_take] at this; omega
  have h9 := h j hj'
  rw [← List.getElem_take (j := k) (h := hj)] at h9
  exact h9
/-- what Down tells, by the whole row -/
def downL (P : List (List Ent)) (s : St) : List Ent := (P.flatten.filter (fun x => !ltS s x.st)).reverse
theorem down_cut {P : List (List Ent)} {s : St} {p i : Nat} {ok : Bool} (h : PlaceIs P s p i ok) (hsp : SP P) (hp : p < P.length) (c : Nat) (hc : c = if ok then i + 1 else i) : downL P s = ((P.take p).flatten ++ P[p].take c).reverse := by
  obtain ⟨hil, hok, hcu⟩ := h.cut hsp hp
  unfold downL
  congr 1
  rw [hcu.eq, List.filter_append, List.filter_append, filt_all (fun x hx => by rw [ltS_asymm (hcu.lo x hx)]; rfl), filt_all (fun x hx => by rw [hcu.mid x hx, ltS_irrefl]; rfl), filt_no (fun x hx => by rw [hcu.hi x hx]; rfl), List.append_nil, List.append_assoc]
  congr 1
  rw [hc]
  cases ok
  · simp
  · simp only [if_true]
    rw [← List.take_add]
theorem bkP_range (m : Nat) : bkP m = (List.range m).reverse := by
  apply List.ext_getElem
  · simp [bkP]
  · intro i h1 h2
    simp [bkP]
theorem bkF_ex (m : Nat) : ∃ qs : List (Fin m), qs.map Fin.val = bkP m := by
  refine ⟨List.ofFn (n := m) fun t => ⟨m - 1 - t.val, by have := t.isLt; omega⟩, ?_⟩
  apply List.ext_getElem
  · simp [bkP]
  · intro i h1 h2
    simp [bkP]
theorem fallF_map (P : List (List Ent)) (count : Nat) (ps : List (Fin P.length)) : fallF P count ps = (ps.map Fin.val).flatMap (fallOf P count) := by
  unfold fallF
  rw [List.flatMap_map]
theorem rev_flat {α β : Type} (f : α → List β) : ∀ l : List α, l.reverse.flatMap (fun x => (f x).reverse) = (l.flatMap f).reverse
  | [] => rfl
  | x :: l => by
    rw [List.reverse_cons, List.flatMap_append, rev_flat f l]
    simp [List.flatMap_cons]
theorem flat_congr {α β : Type} {f g : α → List β} : ∀ l : List α, (∀ x ∈ l, f x = g x) → l.flatMap f = l.flatMap g
  | [], _ => rfl
  | x :: l, h => by
    rw [List.flatMap_cons, List.flatMap_cons, h x (by simp), flat_congr l (fun y hy => h y (by simp [hy]))]
theorem range_flat (Q : List (List Ent)) : ∀ k, k ≤ Q.length → (List.range k).flatMap (fun q => Q.getD q []) = (Q.take k).flatten
  | 0, _ => by simp
  | k + 1, h => by
    rw [List.range_succ, List.flatMap_append, range_flat Q k (by omega), List.take_succ_eq_append_getElem (by omega), List.flatten_append]
    simp [List.getD, show k < Q.length by omega]
theorem fall_all (Q : List (List Ent)) (count k : Nat) (hk : Q.length = k + 1) (ps : List (Fin Q.length)) (h : ps.map Fin.val = bkP Q.length) : fallF Q count ps = ((Q.take k).flatten ++ (Q.getD k []).take count).reverse := by
  rw [fallF_map, h, bkP_range]
  have e : fallOf Q count = fun q => ((Q.getD q []).take (if q + 1 = Q.length then count else (Q.getD q []).length)).reverse := rfl
  rw [e, rev_flat]
  congr 1
  rw [hk, List.range_succ, List.flatMap_append]
  congr 1
  · rw [← range_flat Q k (by omega)]
    refine flat_congr _ fun q hq => ?_
    have : q < k := List.mem_range.1 hq
    rw [if_neg (by omega), List.take_length]
  · simp
theorem fall_pre {Q : List (List Ent)} {count : Nat} (ps : List (Fin Q.length)) (x : Fin Q.length) (k : Nat) (qs : List (Fin Q.length)) (hq : qs.map Fin.val = bkP Q.length) (h : (ps ++ [x]).map Fin.val <+: bkP Q.length) : fallF Q count ps ++ (fallOf Q count x.val).take k <+: fallF Q count qs := by
  rw [fallF_map, fallF_map, hq]
  obtain ⟨t, ht⟩ := h
  rw [← ht, List.map_append, List.flatMap_append, List.flatMap_append]
  simp only [List.map_cons, List.map_nil, List.flatMap_cons, List.flatMap_nil, List.append_nil, List.append_assoc]
  rw [List.prefix_append_right_inj]
  exact (List.take_prefix _ _).trans (List.prefix_append _ _)
section
set_option maxHeartbeats 6400000
set_option maxRecDepth 100000
/-- Down's closure: all entries from s on, falling, of an index that has pages -/
theorem down_G (n : Nat) (hn3 : 10 ≤ n) (gx gs : Nat) (g b o np cap : Nat) (P : List (List Ent)) (s1 s2 : Nat) (w : World)
    (hx : w.cell? ⟨gx, 0, none⟩ = some (.pointer (some ⟨g, 0, none⟩))) (hs : w.rangeAt gs 0 (sc (s1, s2))) (hpg : PgV w (.pointer (some ⟨g, 0, none⟩)) (some ⟨b, o, none⟩) np cap) (hn : np = P.length) (h0 : 0 < np) (hcap : np ≤ cap) (hrd : RdP w (some ⟨b, o, none⟩) P) (hsp : SP P) (hl : np ≤ 4398046511104) (hlp : ∀ p ∈ P, p.length ≤ 100)
    (p i : Nat) (ok : Bool) (hpl : PlaceIs P (s1, s2) p i ok) :
    SeqG Fence.wide n Try.prog 59 #[.pointer (some ⟨gx, 0, none⟩), .pointer (some ⟨gs, 0, none⟩)] encU (EntB w) (fun xs => xs = downL P (s1, s2)) (fun pre => pre <+: downL P (s1, s2)) 1125899906842624 w := by
  intro l J Jx W hwW hnc hJ hJx hY hJ0
  have h1 : 1 ≤ n := by omega
  refine callsIn_of_wp_marks Try.func59 rfl trivial ?_ rfl
  simp only [Try.ntmps59, List.size_toArray, List.length_cons, List.length_nil, Nat.reduceAdd, Nat.reduceSub, Array.replicate_succ, Array.replicate_zero, List.push_toArray, List.append_toArray, List.nil_append, List.cons_append]
  obtain ⟨W1, hW1⟩ : ∃ X : World, X = W.alloc (.cells #[.func (.yield l) #[] #[]] 51) := ⟨_, rfl⟩
  have hb1 : Below W.heap.size W W1 := by rw [hW1]; exact al (Below.refl _ _) _
  have hxW : W.cell? ⟨gx, 0, none⟩ = some (.pointer (some ⟨g, 0, none⟩)) := (hwW.cell (World.block_lt_of_cell? w _ hx)).trans hx
  have hsW := rangeAt_below hs hwW
  have hq0 := hsW 0 _ rfl
  have hq1 := hsW 1 _ rfl
  have hgl : gx < W.heap.size := World.block_lt_of_cell? W _ hxW
  have hgl2 : gs < W.heap.size := World.block_lt_of_cell? W _ hq0
  have hwW1 : Below w.heap.size w W1 := below_next hwW hb1
  have HFR : Hid _ := upTo_t (.pointer (some ⟨g, 0, none⟩)) b o np cap P s1 s2 W1 (hpg.below hwW1) hn hcap h0 (hrd.below hwW1) hsp hl hlp
  have HYB : Hid (W1.heap[W.heap.size]? = some (.cells #[.func (.yield l) #[] #[]] 51 (0, 0))) := (show W1.heap[W.heap.size]? = some (.cells #[.func (.yield l) #[] #[]] 51 (0, 0)) by rw [hW1]; exact heap_alloc_new W _)
  have HB1 : Hid (Below W.heap.size W W1) := hb1
  have HWW : Hid (Below w.heap.size w W) := hwW
  have HNC : Hid _ := hnc
  have HY : Hid _ := hY
  clear hsW hwW1 hb1 hnc hY hpg hs hx
  gi_wp2
  refine ⟨trivial, ?_⟩
  rw [← hW1]
  refine (callsIn_wide.2 HFR.out).mono ?_
  rintro e W2 ⟨p', i', ok', rfl, hpl', hpn, hb2⟩
  obtain ⟨e1, e2, e3⟩ := hpl'.uniq hpl
  subst e1 e2 e3
  obtain ⟨m, hm⟩ : ∃ m, m = p' + 1 := ⟨_, rfl⟩
  obtain ⟨cnt9, hc9⟩ : ∃ c : Nat, c = (if ok' then i' + 1 else i') := ⟨_, rfl⟩
  rw [← hm, ← hc9]
  have HB2 : Hid (Below W.heap.size W W2) := below_next HB1.out hb2
  have hne : ∀ q ∈ P.take m, 0 < q.length := fun q hq => hsp.1 q (List.mem_of_mem_take hq)
  have hml : m = (P.take m).length := by rw [List.length_take]; omega
  have HYB2 : Hid (W2.heap[W.heap.size]? = some (.cells #[.func (.yield l) #[] #[]] 51 (0, 0))) := (hb2.block _ (Array.getElem?_eq_some_iff.1 HYB.out).1).trans HYB.out
  have HCL : Hid _ := cloneP_t b o m cap (P.take m) W2 hml (by omega) (((hrd.below HWW.out).below HB2.out).take m) (by omega) hne
  have HN : Hid (np = P.length) := hn
  have HML : Hid (m = (P.take m).length) := hml
  have HM1 : Hid (m = p' + 1) := hm
  have HC9 : Hid (cnt9 = (if ok' then i' + 1 else i')) := hc9
  have HPN : Hid (p' < np) := hpn
  have HMB : Hid (m ≤ 4398046511104 ∧ 0 < m) := ⟨by omega, by omega⟩
  clear hm hc9 hml hn hb2 hW1
  gi_wp2
  refine ⟨trivial, ?_⟩
  refine (callsIn_wide.2 HCL.out).mono ?_
  rintro e W3 ⟨g3, c3, rfl, hrd3, hg3, hb3⟩
  have HB3 : Hid (Below W.heap.size W W3) := below_next HB2.out hb3
  have HYB3 : Hid (W3.heap[W.heap.size]? = some (.cells #[.func (.yield l) #[] #[]] 51 (0, 0))) := (hb3.block _ (Array.getElem?_eq_some_iff.1 HYB2.out).1).trans HYB2.out
  have HG3 : Hid (W.heap.size ≤ g3) := Nat.le_trans HB2.out.size hg3
  have HRD3 : Hid (RdP W3 (some ⟨g3, 0, none⟩) (P.take m)) := hrd3
  have HRI : Hid _ := falling_t (some ⟨g3, 0, none⟩) m c3 cnt9 W3
  clear hrd3 hg3 hb3
  gi_wp2
  refine ⟨trivial, ?_⟩
  refine (callsIn_wide.2 HRI.out).mono ?_
  rintro e W4 ⟨rfl, hW4⟩
  have hb4 : Below W3.heap.size W3 W4 := by rw [hW4]; exact al (al (Below.refl _ _) _) _
  have hz4 : W4.heap.size = W3.heap.size + 2 := by rw [hW4]; simp
  have hz2 := two_new W3 (.cells #[.slice (some ⟨g3, 0, none⟩) m c3] tPs) (.cells #[.int .i64 (cnt9 : Int)] 3)
  rw [← hW4] at hz2
  have hB4 : Below W.heap.size W W4 := below_next HB3.out hb4
  obtain ⟨A, C, hA⟩ := (HRD3.out.below hb4).fix
  have hY4 : W4.heap[W.heap.size]? = some (.cells #[.func (.yield l) #[] #[]] 51 (0, 0)) := (hb4.block _ (Array.getElem?_eq_some_iff.1 HYB3.out).1).trans HYB3.out
  obtain ⟨Z, hZ⟩ : ∃ Z : BlkS, Z = fun k => EntB w k ∨ (W.heap.size ≤ k ∧ k < W4.heap.size) := ⟨_, rfl⟩
  have hJ4 : J [] Z W4 := by rw [hZ]; exact hJ.grow [] (EntB w) W W4 none hJ0 ⟨hB4.os, hB4.tape, hB4.output, hB4.size, fun k hk _ => hB4.block k hk⟩ (fun r e => by cases e)
  have hZlt : ∀ k, Z k → k < W4.heap.size := fun k hk => by
    rw [hZ] at hk
    rcases hk with ⟨h9, -⟩ | ⟨-, h9⟩
    · have := HWW.out.size; have := hB4.size; omega
    · exact h9
  have hZe : ∀ k cur fr, W4.heap[k]? = some (.cells cur tEn fr) → Z k := fun k cur fr hk => by
    have hlt := (Array.getElem?_eq_some_iff.1 hk).1
    rw [hZ]
    by_cases h9 : W.heap.size ≤ k
    · exact .inr ⟨h9, hlt⟩
    · have hkW : W.heap[k]? = some (.cells cur tEn fr) := (hB4.block k (by omega)).symm.trans hk
      by_cases h8 : w.heap.size ≤ k
      · obtain ⟨o9, h7, h6⟩ := HNC.out k h8 (by omega)
        rw [hkW] at h7; cases h7; cases h6
      · exact .inl ⟨by omega, cur, fr, (HWW.out.block k (by omega)).symm.trans hkW⟩
  have hZg : Z g3 := by
    obtain ⟨b9, o9, e9, h9, -⟩ := hA 0 (by have := HML.out; have := HMB.out; omega)
    cases e9
    rw [hZ]; exact .inr ⟨HG3.out, World.block_lt_of_cell? W4 _ h9⟩
  have hWs : W.heap.size ≤ W3.heap.size := HB3.out.size
  have hZ1 : Z W3.heap.size := by rw [hZ]; exact .inr ⟨hWs, by omega⟩
  have hZ2 : Z (W3.heap.size + 1) := by rw [hZ]; exact .inr ⟨by omega, by omega⟩
  have hZy : Z W.heap.size := by rw [hZ]; exact .inr ⟨Nat.le_refl _, (Array.getElem?_eq_some_iff.1 hY4).1⟩
  have hcP : PlaceIs P (s1, s2) p' i' ok' := hpl
  have hpP : p' < P.length := by have := HN.out; have := HPN.out; omega
  have hlastp : (P.take m).getD (m - 1) [] = P[p'] := by
    have h9 := HM1.out
    have e9 : m - 1 = p' := by omega
    rw [e9]
    simp [List.getD, List.getElem?_take, h9, hpP]
  have hcnt : cnt9 ≤ ((P.take m).getD (m - 1) []).length := by
    rw [hlastp, HC9.out]
    obtain ⟨h8, h7, -⟩ := hcP.cut hsp hpP
    by_cases hb9 : ok' = true
    · rw [if_pos hb9]; have := h7 hb9; omega
    · rw [if_neg hb9]; exact h8
  have HDL : Hid (downL P (s1, s2) = ((P.take p').flatten ++ P[p'].take cnt9).reverse) := down_cut hcP hsp hpP cnt9 HC9.out
  have HFA : Hid (∀ ps : List (Fin (P.take m).length), ps.map Fin.val = bkP (P.take m).length → fallF (P.take m) cnt9 ps = downL P (s1, s2)) := fun ps h9 => by
    rw [HDL.out, fall_all (P.take m) cnt9 p' (by rw [List.length_take]; have := HM1.out; omega) ps h9, List.take_take, Nat.min_eq_left (by have := HM1.out; omega)]
    congr 2
    have h8 := hlastp
    rw [show m - 1 = p' by have := HM1.out; omega] at h8
    rw [h8]
  have HSQ : Hid _ := falling_G (n - 1) (by omega) W3.heap.size (W3.heap.size + 1) (P.take m) cnt9 m c3 (some ⟨g3, 0, none⟩) A C Z W4 HML.out HMB.out.1 (fun q hq => hlp q (List.mem_of_mem_take hq)) hne hcnt 1125899906842624 (fun k hk => by have h9 := HML.out; have := HMB.out.1; omega) hZlt (fun u hu => ⟨hA.keepZ hu hZg hZe, cell_heap (by rw [cell_of_row _ _ _ _ _ _ hz2.1]; rfl) (hu _ hZ1), cell_heap (by rw [cell_of_row _ _ _ _ _ _ hz2.2]; rfl) (hu _ hZ2)⟩)
  have hW4s : W.heap.size ≤ W4.heap.size := hB4.size
  clear hW4 hz2 hA
  gi_wp2
  obtain ⟨gf1, hgf1⟩ : ∃ gf1, gf1 = W3.heap.size := ⟨_, rfl⟩
  obtain ⟨gy, hgy⟩ : ∃ gy, gy = W.heap.size := ⟨_, rfl⟩
  rw [← hgf1, ← hgy]
  have hsq := HSQ.out
  rw [← hgf1] at hsq
  rw [← hgy] at hY4 hZy
  have HGY : Hid (gy = W.heap.size) := hgy
  clear hgf1 hgy
  have HU : Hid (∀ (Zc : BlkS) (V V' : World) (k : Nat), (((Zc k ∨ (V.heap.size ≤ k ∧ k < V'.heap.size)) ∨ Z k) → ((Zc k ∨ Z k) ∨ (V.heap.size ≤ k ∧ k < V'.heap.size)))) := fun Zc V V' k h9 => by
    rcases h9 with (h9 | h9) | h9
    · exact .inl (.inl h9)
    · exact .inr h9
    · exact .inl (.inr h9)
  refine wpIn_rangeFunc_G rfl h1 (gf := 64) (lb := #[.pointer (some ⟨gf1, 0, none⟩), .pointer (some ⟨gf1 + 1, 0, none⟩)]) rfl trivial (enters_of Try.func64 (by kernel_rfl) rfl) hsq hZlt (fun _ => rfl)
    (fun pre Zc V => J pre (fun k => Zc k ∨ Z k) V ∧ V.heap[gy]? = some (.cells #[.func (.yield l) #[] #[]] 51 (0, 0)) ∧ W4.heap.size ≤ V.heap.size ∧ (∀ k, Zc k → k < V.heap.size))
    (fun c pre Zc V => c = .ret ∧ Jx pre (fun k => Zc k ∨ Z k) V)
    ⟨fun s Zc V V' row hs hg hr => ⟨hJ.less _ _ _ _ (hJ.grow s _ V V' row hs.1 hg (fun r e => ⟨by have := (hr r e).1; omega, (hr r e).2⟩)) (fun k hk => HU.out Zc V V' k hk), heap_kept hs.2.1 hg (fun r e => (hr r e).2), Nat.le_trans hs.2.2.1 hg.size, (fun k hk => by
        rcases hk with hk | ⟨-, hk⟩
        · exact Nat.lt_of_lt_of_le (hs.2.2.2 k hk) hg.size
        · exact hk)⟩,
      fun s Zc Z' V hs hz => ⟨hJ.less _ _ _ _ hs.1 (fun k hk => hk.imp (hz k) id), hs.2.1, hs.2.2.1, fun k hk => hs.2.2.2 k (hz k hk)⟩⟩
    (fun c => ⟨fun s Zc V V' row hs hg hr => ⟨hs.1, hJx.less _ _ _ _ (hJx.grow s _ V V' row hs.2 hg (fun r e => ⟨by have := (hr r e).1; omega, (hr r e).2⟩)) (fun k hk => HU.out Zc V V' k hk)⟩, fun s Zc Z' V hs hz => ⟨hs.1, hJx.less _ _ _ _ hs.2 (fun k hk => hk.imp (hz k) id)⟩⟩)
    ⟨hJ.less _ _ _ _ hJ4 (fun k hk => hk.elim id id), hY4, Nat.le_refl _, hZlt⟩
    (fun x a' V => ∃ Bx, V.heap[Bx]? = some (.cells #[.int .u64 (x.st.1 : Int), .int .u64 (x.st.2 : Int), x.v] tEn (0, 0)) ∧ a' = { tmps := #[.func (.yield l) #[] #[], .pointer (some ⟨gx, 0, none⟩), .pointer (some ⟨gs, 0, none⟩), .pointer (some ⟨gy, 0, none⟩), .slice (some ⟨b, o, none⟩) m cap, .int .i64 (cnt9 : Int), .pointer (some ⟨Bx, 0, none⟩), .tuple #[.slice (some ⟨b, o, none⟩) m cap, .int .i64 (cnt9 : Int)], .pointer (some ⟨g, 0, none⟩), .agg #[.int .u64 (s1 : Int), .int .u64 (s2 : Int)], .tuple #[.slice (some ⟨b, o, none⟩) m cap, .int .i64 (cnt9 : Int)], .slice (some ⟨b, o, none⟩) m cap, .int .i64 (cnt9 : Int), .slice (some ⟨b, o, none⟩) m cap, .slice (some ⟨g3, 0, none⟩) m c3, .int .i64 (cnt9 : Int), .func (.func 64) #[] #[.pointer (some ⟨gf1, 0, none⟩), .pointer (some ⟨gf1 + 1, 0, none⟩)], ea x, undef, undef, undef, undef, undef, undef, undef], defers := [] })
    (fun x a' s A B row hs hg hr => by obtain ⟨Bx, h2, h3⟩ := hs; exact ⟨Bx, heap_kept h2 hg (fun r e => (hr r e).2), h3⟩)
    ?assign ?body ?done ?stop
  case assign =>
    rintro l' pre Zc ⟨⟨x1, x2⟩, xn⟩ V K ⟨hj, hyb, hvs, hzl⟩ hK
    gi_wp2
    exact hK _ _ ((KeepsOthers.alloc _ _).from _) (fun k hk => Below.heap_alloc V _ k (hzl k hk)) ⟨hJ.new _ hj, (Below.heap_alloc V _ _ (Array.getElem?_eq_some_iff.1 hyb).1).trans hyb, by simp; omega, fun k hk => by have := hzl k hk; simp; omega⟩ ⟨V.heap.size, heap_alloc_new V _, rfl⟩
  case body =>
    rintro l' pre Zc ⟨⟨x1, x2⟩, xn⟩ a' V hl hlr ⟨hj, hyb, hvs, hzl⟩ ⟨Bx, hX, rfl⟩ hlt
    have hx0 : V.cell? ⟨Bx, 0, none⟩ = some (.int .u64 (x1 : Int)) := by rw [cell_of_row _ _ _ _ _ _ hX]; rfl
    have hx1 : V.cell? ⟨Bx, 1, none⟩ = some (.int .u64 (x2 : Int)) := by rw [cell_of_row _ _ _ _ _ _ hX]; rfl
    have hx2 : V.cell? ⟨Bx, 2, none⟩ = some (.int .u64 (xn : Int)) := by rw [cell_of_row _ _ _ _ _ _ hX]; rfl
    have hcy : V.cell? ⟨gy, 0, none⟩ = some (.func (.yield l) #[] #[]) := by rw [cell_of_row _ _ _ _ _ _ hyb]; rfl
    obtain ⟨fn, tmps, assign, body, hy, hRd⟩ := yield_any (m' := n - 1 - 1 - 1) (HY.out pre (fun k => Zc k ∨ Z k) (⟨(x1, x2), xn⟩ : Ent) V hj hlt)
    dsimp only [encU, Ent.v] at hy
    gi_wp2
    refine ⟨fun h => (by cases h), ?_⟩
    refine RoundIn.mono hRd ?_
    rintro e V3 ⟨k3, z3, (⟨rfl, hJ3⟩ | ⟨rfl, hJx3⟩)⟩
    · gi_wp2
      exact ⟨keeps_up k3 hW4s, fun k hk => z3 k (.inl hk), hJ3, (z3 _ (.inr hZy)).trans hyb, Nat.le_trans hvs k3.size, fun k hk => Nat.lt_of_lt_of_le (hzl k hk) k3.size⟩
    · gi_wp2
      exact ⟨keeps_up k3 hW4s, fun k hk => z3 k (.inl hk), rfl, hJx3⟩
  case done =>
    rintro D ys Zc V hD ⟨ps, hps, rfl⟩ ⟨hj, -, -, -⟩ hK
    gi_wp2
    refine ⟨by simp, .inl ⟨_, _, rfl, run_takeDeferred hK, ?_⟩⟩
    exact ⟨_, results_none rfl _ _ _, ⟨_, rfl⟩, .inl ⟨_, _, HFA.out ps hps, hJ.turn _ hj (by omega) hK rfl⟩⟩
  case stop =>
    rintro D c pre Zc V hD ⟨ps, x, k, hpre, rfl⟩ ⟨rfl, hjx⟩ hK
    have hpf : fallF (P.take m) cnt9 ps ++ (fallOf (P.take m) cnt9 x.val).take k <+: downL P (s1, s2) := by
      obtain ⟨qs, hqs⟩ := bkF_ex (P.take m).length
      rw [← HFA.out qs hqs]
      exact fall_pre ps x k qs hqs hpre
    gi_wp2
    refine ⟨by simp, .inl ⟨_, _, rfl, run_takeDeferred hK, ?_⟩⟩
    exact ⟨_, results_none rfl _ _ _, ⟨_, rfl⟩, .inr ⟨_, _, hpf, hJx.turn _ hjx (by omega) hK rfl⟩⟩
end
end Go.Proofs.Ytibolgpaolnheac
namespace Go.Proofs.Ytibolgpaolnheac
set_option linter.unusedVariables false
set_option linter.unusedSimpArgs false
open Go.RowKit Go.Shelf
attribute [local go_sem] Oper.semAt_some
section
set_option maxHeartbeats 6400000
set_option maxRecDepth 100000
/-- Down's closure: nothing, of an index that has no pages -/
theorem down_G0 (n : Nat) (hn3 : 10 ≤ n) (gx gs : Nat) (x : Value) (pa : Option Addr) (cap : Nat) (hpa : (pa = none ∧ cap = 0) ∨ (∃ b o, pa = some ⟨b, o, none⟩)) (hx1 : x.oneCell' = true) (g : Option Addr) (hxg : x = .pointer g) (s1 s2 : Nat) (w : World)
    (hx : w.cell? ⟨gx, 0, none⟩ = some x) (hs : w.rangeAt gs 0 (sc (s1, s2))) (hpg : PgV w x pa 0 cap) :
    SeqG Fence.wide n Try.prog 59 #[.pointer (some ⟨gx, 0, none⟩), .pointer (some ⟨gs, 0, none⟩)] encU (EntB w) (fun xs => xs = []) (fun pre => pre <+: ([] : List Ent)) 0 w := by
  intro l J Jx W hwW hnc hJ hJx hY hJ0
  have h1 : 1 ≤ n := by omega
  refine callsIn_of_wp_marks Try.func59 rfl trivial ?_ rfl
  simp only [Try.ntmps59, List.size_toArray, List.length_cons, List.length_nil, Nat.reduceAdd, Nat.reduceSub, Array.replicate_succ, Array.replicate_zero, List.push_toArray, List.append_toArray, List.nil_append, List.cons_append]
  obtain ⟨W1, hW1⟩ : ∃ X : World, X = W.alloc (.cells #[.func (.yield l) #[] #[]] 51) := ⟨_, rfl⟩
  have hb1 : Below W.heap.size W W1 := by rw [hW1]; exact al (Below.refl _ _) _
  have hxW : W.cell? ⟨gx, 0, none⟩ = some x := (hwW.cell (World.block_lt_of_cell? w _ hx)).trans hx
  have hsW := rangeAt_below hs hwW
  have hq0 := hsW 0 _ rfl
  have hq1 := hsW 1 _ rfl
  have hgl : gx < W.heap.size := World.block_lt_of_cell? W _ hxW
  have hgl2 : gs < W.heap.size := World.block_lt_of_cell? W _ hq0
  have hwW1 : Below w.heap.size w W1 := below_next hwW hb1
  have HFR : Hid _ := upTo0_t x pa cap hpa s1 s2 W1 (hpg.below hwW1)
  have HYB : Hid (W1.heap[W.heap.size]? = some (.cells #[.func (.yield l) #[] #[]] 51 (0, 0))) := (show W1.heap[W.heap.size]? = some (.cells #[.func (.yield l) #[] #[]] 51 (0, 0)) by rw [hW1]; exact heap_alloc_new W _)
  have HB1 : Hid (Below W.heap.size W W1) := hb1
  have HWW : Hid (Below w.heap.size w W) := hwW
  have HNC : Hid _ := hnc
  have HY : Hid _ := hY
  subst hxg
  clear hsW hwW1 hb1 hnc hY hpg hs hx
  gi_wp2
  refine ⟨trivial, ?_⟩
  rw [← hW1]
  refine (callsIn_wide.2 HFR.out).mono ?_
  rintro e W2 ⟨rfl, hb2⟩
  have HB2 : Hid (Below W.heap.size W W2) := below_next HB1.out hb2
  have HYB2 : Hid (W2.heap[W.heap.size]? = some (.cells #[.func (.yield l) #[] #[]] 51 (0, 0))) := (hb2.block _ (Array.getElem?_eq_some_iff.1 HYB.out).1).trans HYB.out
  have HCL : Hid _ := clone0_t pa cap hpa W2
  clear hb2 hW1
  gi_wp2
  refine ⟨trivial, ?_⟩
  refine (callsIn_wide.2 HCL.out).mono ?_
  rintro e W3 ⟨pa3, c3, rfl, hb3⟩
  have HB3 : Hid (Below W.heap.size W W3) := below_next HB2.out hb3
  have HYB3 : Hid (W3.heap[W.heap.size]? = some (.cells #[.func (.yield l) #[] #[]] 51 (0, 0))) := (hb3.block _ (Array.getElem?_eq_some_iff.1 HYB2.out).1).trans HYB2.out
  have HRI : Hid (Calls Try.prog 52 #[.slice pa3 0 c3, .int .i64 0] W3 fun e w' => e = .returned (.func (.func 64) #[] #[.pointer (some ⟨W3.heap.size, 0, none⟩), .pointer (some ⟨W3.heap.size + 1, 0, none⟩)]) ∧ w' = (W3.alloc (.cells #[.slice pa3 0 c3] tPs)).alloc (.cells #[.int .i64 0] 3)) := falling_t pa3 0 c3 0 W3
  clear hb3
  gi_wp2
  refine ⟨trivial, ?_⟩
  refine (callsIn_wide.2 HRI.out).mono ?_
  rintro e W4 ⟨rfl, hW4⟩
  have hb4 : Below W3.heap.size W3 W4 := by rw [hW4]; exact al (al (Below.refl _ _) _) _
  have hz4 : W4.heap.size = W3.heap.size + 2 := by rw [hW4]; simp
  have hz2 := two_new W3 (.cells #[.slice pa3 0 c3] tPs) (.cells #[.int .i64 0] 3)
  rw [← hW4] at hz2
  have hB4 : Below W.heap.size W W4 := below_next HB3.out hb4
  have hY4 : W4.heap[W.heap.size]? = some (.cells #[.func (.yield l) #[] #[]] 51 (0, 0)) := (hb4.block _ (Array.getElem?_eq_some_iff.1 HYB3.out).1).trans HYB3.out
  obtain ⟨Z, hZ⟩ : ∃ Z : BlkS, Z = fun k => EntB w k ∨ (W.heap.size ≤ k ∧ k < W4.heap.size) := ⟨_, rfl⟩
  have hJ4 : J [] Z W4 := by rw [hZ]; exact hJ.grow [] (EntB w) W W4 none hJ0 ⟨hB4.os, hB4.tape, hB4.output, hB4.size, fun k hk _ => hB4.block k hk⟩ (fun r e => by cases e)
  have hZlt : ∀ k, Z k → k < W4.heap.size := fun k hk => by
    rw [hZ] at hk
    rcases hk with ⟨h9, -⟩ | ⟨-, h9⟩
    · have := HWW.out.size; have := hB4.size; omega
    · exact h9
  have hZe : ∀ k cur fr, W4.heap[k]? = some (.cells cur tEn fr) → Z k := fun k cur fr hk => by
    have hlt := (Array.getElem?_eq_some_iff.1 hk).1
    rw [hZ]
    by_cases h9 : W.heap.size ≤ k
    · exact .inr ⟨h9, hlt⟩
    · have hkW : W.heap[k]? = some (.cells cur tEn fr) := (hB4.block k (by omega)).symm.trans hk
      by_cases h8 : w.heap.size ≤ k
      · obtain ⟨o9, h7, h6⟩ := HNC.out k h8 (by omega)
        rw [hkW] at h7; cases h7; cases h6
      · exact .inl ⟨by omega, cur, fr, (HWW.out.block k (by omega)).symm.trans hkW⟩
  have hWs : W.heap.size ≤ W3.heap.size := HB3.out.size
  have hZ1 : Z W3.heap.size := by rw [hZ]; exact .inr ⟨hWs, by omega⟩
  have hZ2 : Z (W3.heap.size + 1) := by rw [hZ]; exact .inr ⟨by omega, by omega⟩
  have hZy : Z W.heap.size := by rw [hZ]; exact .inr ⟨Nat.le_refl _, (Array.getElem?_eq_some_iff.1 hY4).1⟩
  have HSQ : Hid _ := falling_G (n - 1) (by omega) W3.heap.size (W3.heap.size + 1) [] 0 0 c3 pa3 (fun _ => none) (fun _ => 0) Z W4 rfl (by decide) (fun q hq => by cases hq) (fun q hq => by cases hq) (Nat.zero_le _) 0 (fun k hk => absurd hk (Nat.not_lt_zero _)) hZlt (fun u hu => ⟨fun j hj => absurd hj (Nat.not_lt_zero _), cell_heap (by rw [cell_of_row _ _ _ _ _ _ hz2.1]; rfl) (hu _ hZ1), cell_heap (by rw [cell_of_row _ _ _ _ _ _ hz2.2]; rfl) (hu _ hZ2)⟩)
  have hW4s : W.heap.size ≤ W4.heap.size := hB4.size
  clear hW4 hz2
  gi_wp2
  refine wpIn_rangeFunc_G rfl h1 (gf := 64) (lb := #[.pointer (some ⟨W3.heap.size, 0, none⟩), .pointer (some ⟨W3.heap.size + 1, 0, none⟩)]) rfl trivial (enters_of Try.func64 (by kernel_rfl) rfl) HSQ.out hZlt (fun _ => rfl)
    (fun pre Zc V => J pre Zc V ∧ (∀ k, Zc k → k < V.heap.size) ∧ pre = [])
    (fun c pre Zc V => False)
    ⟨fun s Zc V V' row hs hg hr => ⟨hJ.grow s Zc V V' row hs.1 hg (fun r e => ⟨by have := (hr r e).1; omega, (hr r e).2⟩), (fun k hk => by
        rcases hk with hk | ⟨-, hk⟩
        · exact Nat.lt_of_lt_of_le (hs.2.1 k hk) hg.size
        · exact hk), hs.2.2⟩, fun s Zc Z' V hs hz => ⟨hJ.less _ _ _ _ hs.1 hz, fun k hk => hs.2.1 k (hz k hk), hs.2.2⟩⟩
    (fun c => ⟨fun s Zc V V' row hs _ _ => hs, fun s Zc Z' V hs _ => hs⟩)
    ⟨hJ4, hZlt, rfl⟩
    (fun x a' V => True)
    (fun x a' s A B row hs hg hr => trivial)
    ?assign ?body ?done ?stop
  case assign =>
    rintro l' pre Zc ⟨⟨x1, x2⟩, xn⟩ V K ⟨hj, hzl, hp⟩ hK
    gi_wp2
    exact hK _ _ ((KeepsOthers.alloc _ _).from _) (fun k hk => Below.heap_alloc V _ k (hzl k hk)) ⟨hJ.new _ hj, fun k hk => by have := hzl k hk; simp; omega, hp⟩ trivial
  case body =>
    rintro l' pre Zc x9 a' V hl hlr - - hlt
    exact absurd hlt (Nat.not_lt_zero _)
  case done =>
    rintro D ys Zc V hD - ⟨hj, -, rfl⟩ hK
    gi_wp2
    refine ⟨by simp, .inl ⟨_, _, rfl, run_takeDeferred hK, ?_⟩⟩
    exact ⟨_, results_none rfl _ _ _, ⟨_, rfl⟩, .inl ⟨_, _, rfl, hJ.turn _ hj (by omega) hK rfl⟩⟩
  case stop =>
    rintro D c pre Zc V hD hpre hno hK
    exact hno.elim
end
end Go.Proofs.Ytibolgpaolnheac
