import Derived.Test.YtibolgpaolnheacQO5
import Derived.Test.YtibolgpaolnheacQRg
namespace Go.Proofs.Ytibolgpaolnheac
set_option linter.unusedVariables false
set_option linter.unusedSimpArgs false
open Go.RowKit Go.Shelf
attribute [local go_sem] Oper.semAt_some
theorem yield_mono {m : Nat} {P : Program} {l : Nat} {args : Array Value} {W : World} {R R' : Ending → World → Prop} (h : YieldAt Fence.wide m P l args W R) (hr : ∀ e w', R e w' → R' e w') : YieldAt Fence.wide m P l args W R' := by
  obtain ⟨fn, tmps, assign, body, h1, h2⟩ := h
  exact ⟨fn, tmps, assign, body, h1, RoundIn.mono h2 hr⟩
/-- what falling gives of a page -/
def fallOf (P : List (List Ent)) (count q : Nat) : List Ent := ((P.getD q []).take (if q + 1 = P.length then count else (P.getD q []).length)).reverse
def fallF (P : List (List Ent)) (count : Nat) (pre : List (Fin P.length)) : List Ent := pre.flatMap fun q => fallOf P count q.val
theorem fallF_snoc (P : List (List Ent)) (count : Nat) (pre : List (Fin P.length)) (x : Fin P.length) : fallF P count (pre ++ [x]) = fallF P count pre ++ fallOf P count x.val := by simp [fallF]
theorem bkE_snd (xs : List Ent) : (bkE xs).map Prod.snd = xs.reverse := by
  apply List.ext_getElem
  · simp [bkE]
  · intro i h1 h2
    simp [bkE]
theorem fallOf_len {P : List (List Ent)} (hlp : ∀ p ∈ P, p.length ≤ 100) (count q : Nat) : (fallOf P count q).length ≤ 100 := by
  unfold fallOf
  rw [List.length_reverse, List.length_take]
  by_cases h : q < P.length
  · have := hlp _ (List.getElem_mem h)
    rw [show P.getD q [] = P[q] by simp [List.getD, h]]
    omega
  · rw [show P.getD q [] = [] by simp [List.getD, List.getElem?_eq_none (by omega : P.length ≤ q)]]
    simp
theorem fallF_len {P : List (List Ent)} (hlp : ∀ p ∈ P, p.length ≤ 100) (count : Nat) : ∀ pre : List (Fin P.length), (fallF P count pre).length ≤ 100 * pre.length
  | [] => by simp [fallF]
  | x :: pre => by
    have h1 := fallF_len hlp count pre
    have h2 := fallOf_len hlp count x.val
    unfold fallF at *
    rw [List.flatMap_cons, List.length_append, List.length_cons]
    omega
abbrev KpZ (Z : BlkS) (V V' : World) : Prop := V.heap.size ≤ V'.heap.size ∧ KeepZ Z V V'
theorem backP_stops (n : Nat) (hn : 1 ≤ n) (g : Nat) (Z : BlkS) (P : List (List Ent)) (A : Nat → Option Addr) (C : Nat → Nat) (pa : Option Addr) (K cap : Nat) (hK : K = P.length) (hl : K ≤ 4398046511104) (w : World) (hZlt : ∀ k, Z k → k < w.heap.size)
    (hR : ∀ u, KeepZ Z w u → RdPA u pa P A C ∧ u.cell? ⟨g, 0, none⟩ = some (.slice pa K cap)) :
    SeqStopsK Fence.wide n Try.prog 71 #[.pointer (some ⟨g, 0, none⟩)] (fun x : Fin P.length => encP P A C x.val) (KpZ Z) (fun ys => ys.map Fin.val = bkP P.length) (fun pre => pre.map Fin.val <+: bkP P.length) P.length w := by
  intro l J Jx W hW hJ hJx hY hJ0
  refine (backP_in Fence.wide n trivial rfl hn l g (KpZ Z) (fun V => ⟨Nat.le_refl _, fun _ _ => rfl⟩) (fun h k => ⟨Nat.le_trans h.1 k.1, h.2.trans k.2⟩) (fun h => h.1) P A C pa K cap hK hl (fun pre V => ∃ pre' : List (Fin P.length), pre'.map Fin.val = pre ∧ J pre' V) (fun pre V => ∃ pre' : List (Fin P.length), pre'.map Fin.val = pre ∧ Jx pre' V) ?_ W (fun u hu => hR u fun k hk => (hu.2 k hk).trans (hW.block k (hZlt k hk))) ⟨[], rfl, hJ0⟩).mono ?_
  · rintro pre x V hx ⟨pre', rfl, hj⟩ hlen
    refine yield_mono (hY pre' ⟨x, hx⟩ V hj (by simpa using hlen)) ?_
    rintro e V' (⟨h1, h2, h3⟩ | ⟨h1, h2⟩)
    · exact .inl ⟨h1, ⟨pre' ++ [⟨x, hx⟩], by simp, h2⟩, h3⟩
    · exact .inr ⟨h1, ⟨pre' ++ [⟨x, hx⟩], by simp, h2⟩⟩
  · rintro e V' ⟨hv, (⟨ys, h1, ys', h2, h3⟩ | ⟨ys, h1, ys', h2, h3⟩)⟩
    · exact ⟨hv, .inl ⟨ys', h2.trans h1, h3⟩⟩
    · exact ⟨hv, .inr ⟨ys', (show List.map Fin.val ys' <+: _ by rw [h2]; exact h1), h3⟩⟩
theorem backE_stops (n : Nat) (hn : 1 ≤ n) (g : Nat) (Z : BlkS) (xs : List Ent) (pa : Option Addr) (K cap : Nat) (hK : K = xs.length) (hl : K ≤ 100) (w : World) (hZlt : ∀ k, Z k → k < w.heap.size)
    (hR : ∀ u, KeepZ Z w u → RdE u pa xs ∧ u.cell? ⟨g, 0, none⟩ = some (.slice pa K cap)) :
    SeqStopsK Fence.wide n Try.prog 72 #[.pointer (some ⟨g, 0, none⟩)] encB (KpZ Z) (fun ys => ys = bkE xs) (fun pre => pre <+: bkE xs) xs.length w := by
  intro l J Jx W hW hJ hJx hY hJ0
  exact backE_in Fence.wide n trivial rfl hn l g (KpZ Z) (fun V => ⟨Nat.le_refl _, fun _ _ => rfl⟩) (fun h k => ⟨Nat.le_trans h.1 k.1, h.2.trans k.2⟩) (fun h => h.1) xs pa K cap hK hl J Jx hY W (fun u hu => hR u fun k hk => (hu.2 k hk).trans (hW.block k (hZlt k hk))) hJ0
section
set_option maxHeartbeats 6400000
set_option maxRecDepth 100000
theorem falling_G (n : Nat) (hn8 : 8 ≤ n) (g2 g3 : Nat) (P : List (List Ent)) (count np cap : Nat) (pa : Option Addr) (A : Nat → Option Addr) (C : Nat → Nat) (Z0 : BlkS) (w : World) (hnp : np = P.length) (hnl : np ≤ 4398046511104) (hlp : ∀ p ∈ P, p.length ≤ 100) (hne : ∀ p ∈ P, 0 < p.length) (hcnt : count ≤ (P.getD (np - 1) []).length) (N : Nat) (hN : ∀ k, k < P.length → 100 * k + 101 ≤ N) (hZlt : ∀ k, Z0 k → k < w.heap.size)
    (hR : ∀ u, KeepZ Z0 w u → RdPA u pa P A C ∧ u.cell? ⟨g2, 0, none⟩ = some (.slice pa np cap) ∧ u.cell? ⟨g3, 0, none⟩ = some (.int .i64 (count : Int))) :
    SeqG Fence.wide n Try.prog 64 #[.pointer (some ⟨g2, 0, none⟩), .pointer (some ⟨g3, 0, none⟩)] (fun x : Ent => #[ea x]) Z0 (fun xs => ∃ ps : List (Fin P.length), ps.map Fin.val = bkP P.length ∧ xs = fallF P count ps)
      (fun pre => ∃ (ps : List (Fin P.length)) (x : Fin P.length) (k : Nat), (ps ++ [x]).map Fin.val <+: bkP P.length ∧ pre = fallF P count ps ++ (fallOf P count x.val).take k) N w := by
  obtain ⟨SS, hSS⟩ : ∃ SS : List Ent → Prop, SS = (fun xs => ∃ ps : List (Fin P.length), ps.map Fin.val = bkP P.length ∧ xs = fallF P count ps) := ⟨_, rfl⟩
  obtain ⟨SX, hSX⟩ : ∃ SX : List Ent → Prop, SX = (fun pre => ∃ (ps : List (Fin P.length)) (x : Fin P.length) (k : Nat), (ps ++ [x]).map Fin.val <+: bkP P.length ∧ pre = fallF P count ps ++ (fallOf P count x.val).take k) := ⟨_, rfl⟩
  rw [← hSS, ← hSX]
  have HSS : Hid (∀ ps : List (Fin P.length), ps.map Fin.val = bkP P.length → SS (fallF P count ps)) := fun ps h9 => by rw [hSS]; exact ⟨ps, h9, rfl⟩
  have HSX : Hid (∀ (ps : List (Fin P.length)) (x : Fin P.length) (k : Nat), (ps ++ [x]).map Fin.val <+: bkP P.length → SX (fallF P count ps ++ (fallOf P count x.val).take k)) := fun ps x k h9 => by rw [hSX]; exact ⟨ps, x, k, h9, rfl⟩
  clear hSS hSX
  intro l J Jx W hwW hnc hJ hJx hY hJ0
  have h1 : 1 ≤ n := by omega
  obtain ⟨W1, hW1⟩ : ∃ X : World, X = W.alloc (.cells #[.func (.yield l) #[] #[]] 103) := ⟨_, rfl⟩
  have hb1 : Below W.heap.size W W1 := by rw [hW1]; exact al (Below.refl _ _) _
  have hkW : KeepZ Z0 w W := fun k hk => hwW.block k (hZlt k hk)
  have hkW1 : KeepZ Z0 w W1 := fun k hk => (hb1.block k (Nat.lt_of_lt_of_le (hZlt k hk) hwW.size)).trans (hkW k hk)
  obtain ⟨hrdW, hc2W, hc3W⟩ := hR W hkW
  have hc2 := (hR W1 hkW1).2.1
  have hgl2 : g2 < W.heap.size := World.block_lt_of_cell? W _ hc2W
  have HBP : Hid _ := backP_t pa np cap W1
  obtain ⟨W2, hW2⟩ : ∃ X : World, X = W1.alloc (.cells #[.slice pa np cap] tPs) := ⟨_, rfl⟩
  have hb2 : Below W1.heap.size W1 W2 := by rw [hW2]; exact al (Below.refl _ _) _
  have HB2 : Hid (Below W.heap.size W W2) := below_next hb1 hb2
  have HY : Hid _ := hY
  have HNC : Hid _ := hnc
  have HNP : Hid (np = P.length) := hnp
  have HRR : Hid (∀ u, KeepZ Z0 w u → RdPA u pa P A C ∧ u.cell? ⟨g2, 0, none⟩ = some (.slice pa np cap) ∧ u.cell? ⟨g3, 0, none⟩ = some (.int .i64 (count : Int))) := hR
  clear hnp hR
  refine callsIn_of_wp_marks Try.func64 rfl trivial ?_ rfl
  simp only [Try.ntmps64, List.size_toArray, List.length_cons, List.length_nil, Nat.reduceAdd, Nat.reduceSub, Array.replicate_succ, Array.replicate_zero, List.push_toArray, List.append_toArray, List.nil_append, List.cons_append]
  clear hY hnc
  gi_wp2
  refine ⟨trivial, ?_⟩
  rw [← hW1]
  refine (callsIn_wide.2 HBP.out).mono ?_
  rintro e z ⟨rfl, hz⟩
  have hz' : z = W2 := hz.trans hW2.symm
  subst hz'
  have HW1 : Hid (W1 = W.alloc (.cells #[.func (.yield l) #[] #[]] 103)) := hW1
  have HZZ : Hid (z = W1.alloc (.cells #[.slice pa np cap] tPs)) := hz
  clear hW1 hW2 hz
  gi_wp2
  obtain ⟨Z1, hZ1⟩ : ∃ Z1 : BlkS, Z1 = fun k => Z0 k ∨ (W.heap.size ≤ k ∧ k < z.heap.size) := ⟨_, rfl⟩
  have hb := HB2.out
  have hJ1 : J [] Z1 z := by rw [hZ1]; exact hJ.grow [] Z0 W z none hJ0 ⟨hb.os, hb.tape, hb.output, hb.size, fun k hk _ => hb.block k hk⟩ (fun r e => by cases e)
  have hZ1lt : ∀ k, Z1 k → k < z.heap.size := fun k hk => by
    rw [hZ1] at hk
    rcases hk with hk | ⟨-, hk⟩
    · exact Nat.lt_of_lt_of_le (hZlt k hk) (Nat.le_trans hwW.size hb.size)
    · exact hk
  have hZ01 : ∀ u, KeepZ Z1 z u → KeepZ Z0 w u := fun u hu k hk => by
    have h9 := hu k (by rw [hZ1]; exact .inl hk)
    exact h9.trans ((hb.block k (Nat.lt_of_lt_of_le (hZlt k hk) hwW.size)).trans (hkW k hk))
  have hzW1 : W1.heap.size < z.heap.size := by rw [HZZ.out]; simp
  have hWW1 : W.heap.size < W1.heap.size := by rw [HW1.out]; simp
  have hyb : z.heap[W.heap.size]? = some (.cells #[.func (.yield l) #[] #[]] 103 (0, 0)) := (hb2.block _ hWW1).trans (by rw [HW1.out]; exact heap_alloc_new W _)
  have hpb : z.heap[W1.heap.size]? = some (.cells #[.slice pa np cap] tPs (0, 0)) := by rw [HZZ.out]; exact heap_alloc_new W1 _
  have hZb : Z1 W1.heap.size := by rw [hZ1]; exact .inr ⟨Nat.le_of_lt hWW1, hzW1⟩
  have hZy : Z1 W.heap.size := by rw [hZ1]; exact .inr ⟨Nat.le_refl _, by omega⟩
  have hWz : W.heap.size ≤ z.heap.size := hb.size
  have HSP : Hid _ := backP_stops (n - 1) (by omega) W1.heap.size Z1 P A C pa np cap HNP.out hnl z hZ1lt (fun u hu => ⟨(HRR.out u (hZ01 u hu)).1, cell_heap (by rw [cell_of_row _ _ _ _ _ _ hpb]; rfl) (hu _ hZb)⟩)
  obtain ⟨gp, hgp⟩ : ∃ gp, gp = W1.heap.size := ⟨_, rfl⟩
  obtain ⟨gy, hgy⟩ : ∃ gy, gy = W.heap.size := ⟨_, rfl⟩
  rw [← hgp, ← hgy]
  have hsp := HSP.out
  rw [← hgp] at hsp
  have HGP : Hid (gp = W1.heap.size) := hgp
  have HGY : Hid (gy = W.heap.size) := hgy
  rw [← hgy] at hyb hZy hWz
  clear hgp hgy hb hzW1 hWW1 hpb hZb
  refine wpIn_rangeFunc_ownH rfl h1 (gf := 71) (lb := #[.pointer (some ⟨gp, 0, none⟩)]) rfl trivial (enters_of Try.func71 (by kernel_rfl) rfl)
    hsp (fun h k => ⟨Nat.le_trans h.1 k.1, h.2.trans k.2⟩) (fun V l o o' hl _ _ _ => ⟨by simp, keepZ_put V o' (fun hz => by have := hZ1lt l hz; omega)⟩) (Below.refl _ _) (fun _ => rfl)
    (fun pre V => J (fallF P count pre) Z1 V ∧ V.heap[gy]? = some (.cells #[.func (.yield l) #[] #[]] 103 (0, 0)) ∧ z.heap.size ≤ V.heap.size ∧ KeepZ Z1 z V ∧ pre.length ≤ P.length)
    (fun c pre V => c = .ret ∧ ∃ (ps : List (Fin P.length)) (x : Fin P.length) (k : Nat), pre = ps ++ [x] ∧ Jx (fallF P count ps ++ (fallOf P count x.val).take k) Z1 V)
    (fun s A B row hs hg hr => ⟨hJ.less _ _ _ _ (hJ.grow _ Z1 A B row hs.1 hg (fun r e => ⟨by have := (hr r e).1; have := HGY.out; omega, (hr r e).2⟩)) (fun k hk => .inl hk), heap_kept hs.2.1 hg (fun r e => (hr r e).2), Nat.le_trans hs.2.2.1 hg.size, (fun k hk => (hg.block k (by have := hZ1lt k hk; have := hs.2.2.1; omega) (fun e => by have := (hr k e.symm).1; have := hZ1lt k hk; omega)).trans (hs.2.2.2.1 k hk)), hs.2.2.2.2⟩)
    (fun c s A B row hs hg hr => by
      obtain ⟨h2, ps, x, k, h3, h4⟩ := hs
      exact ⟨h2, ps, x, k, h3, hJx.less _ _ _ _ (hJx.grow _ Z1 A B row h4 hg (fun r e => ⟨by have := (hr r e).1; have := HGY.out; omega, (hr r e).2⟩)) (fun k hk => .inl hk)⟩)
    ⟨hJ1, hyb, Nat.le_refl _, fun _ _ => rfl, Nat.zero_le _⟩
    (fun x a' V => a' = { tmps := #[.func (.yield l) #[] #[], .pointer (some ⟨g2, 0, none⟩), .pointer (some ⟨g3, 0, none⟩), .pointer (some ⟨gy, 0, none⟩), .int .i64 (x.val : Int), .slice (A x.val) P[x.val].length (C x.val), undef, undef, .slice pa np cap, .func (.func 71) #[] #[.pointer (some ⟨gp, 0, none⟩)], .int .i64 (x.val : Int), .slice (A x.val) P[x.val].length (C x.val), undef, undef, undef, undef, undef, undef, undef, undef, undef, undef, undef, undef, undef, undef, undef, undef], defers := [] })
    (fun x a' s A B row hs hg hr => hs)
    ?assign ?body ?done ?stop
  case assign =>
    rintro l1 pre x V K hI hK
    gi_wp2
    exact hK _ _ (KeepsFrom.refl _ _) ⟨Nat.le_refl _, fun _ _ => rfl⟩ hI rfl
  case body =>
    rintro l1 pre x a' V hl1 ⟨r1, hr1⟩ ⟨hj, hyv, hvs, hkz, hpl⟩ rfl hlt
    obtain ⟨hrdV, hc2V, hc3V⟩ := HRR.out V (hZ01 V hkz)
    obtain ⟨b9, o9, rfl, hcq, hkq, hreq⟩ := hrdV x.val x.isLt
    obtain ⟨q, hq⟩ : ∃ q, q = x.val := ⟨_, rfl⟩
    obtain ⟨LQ, hLQ⟩ : ∃ LQ, LQ = P[x.val].length := ⟨_, rfl⟩
    obtain ⟨AQ, hAQ⟩ : ∃ AQ, AQ = A x.val := ⟨_, rfl⟩
    obtain ⟨CQ, hCQ⟩ : ∃ CQ, CQ = C x.val := ⟨_, rfl⟩
    rw [← hLQ, ← hCQ] at hkq
    rw [← hAQ] at hreq
    rw [← hLQ, ← hAQ, ← hCQ, ← hq]
    obtain ⟨bq, oq, haq⟩ : ∃ bq oq, AQ = some ⟨bq, oq, none⟩ := by
      obtain ⟨bq, oq, h9, -⟩ := hreq 0 (hne _ (List.getElem_mem x.isLt))
      exact ⟨bq, oq, h9⟩
    have HX : Hid (q = x.val) := hq
    have HLQ : Hid (LQ = P[x.val].length) := hLQ
    have HRE : Hid (RdE V (some ⟨bq, oq, none⟩) P[x.val]) := (show RdE V (some ⟨bq, oq, none⟩) P[x.val] by rw [← haq]; exact hreq)
    have hLQ1 : LQ ≤ 100 := by rw [hLQ]; exact hlp _ (List.getElem_mem x.isLt)
    have hqn : q < np := by rw [HNP.out, hq]; exact x.isLt
    obtain ⟨np1, hnp1⟩ : ∃ np1, np1 + 1 = np := ⟨np - 1, by omega⟩
    have hwn : IntKind.i64.wrap ((np : Int) - 1) = (np1 : Int) := by rw [IntKind.wrap_i64]; omega
    have HNP1 : Hid (np1 + 1 = np) := hnp1
    have hc30 : (0 : Int) ≤ (count : Int) := by omega
    have HAQ : Hid (A x.val = some ⟨bq, oq, none⟩) := hAQ.symm.trans haq
    have HAQ : Hid (A x.val = some ⟨bq, oq, none⟩) := hAQ.symm.trans haq
    subst haq
    clear hq hLQ hAQ hCQ hreq hcq hrdV hnp1
    by_cases hlast : q = np1
    · have hcl : count ≤ LQ := by
        have h9 := hcnt
        rw [show np - 1 = x.val by have := HX.out; have := HNP1.out; omega, show P.getD x.val [] = P[x.val] by simp [List.getD]] at h9
        rw [HLQ.out]; exact h9
      have hclI : (count : Int) ≤ (LQ : Int) := by omega
      have hcc : count ≤ CQ := by omega
      subst hlast
      --INNER1
      gi_wp2
      have HFO : Hid (fallOf P count x.val = (P[x.val].take count).reverse) := (show _ = _ by
        unfold fallOf
        rw [show P.getD x.val [] = P[x.val] by simp [List.getD]]
        rw [if_pos (by have := HX.out; have := HNP1.out; have := HNP.out; omega)])
      have HKL : Hid (count = (P[x.val].take count).length) := (show count = _ by rw [List.length_take, ← HLQ.out]; omega)
      refine ⟨trivial, fun h9 => (by cases h9), ?_⟩
      refine (callsIn_round.2 (backE_t (some ⟨bq, oq, none⟩) count CQ V)).mono ?_
      rintro e V1 ⟨rfl, hV1⟩
      have HV1 : Hid (V1 = V.alloc (.cells #[.slice (some ⟨bq, oq, none⟩) count CQ] 68)) := hV1
      have hs1 : V1.heap.size = V.heap.size + 1 := by rw [hV1]; simp
      have hbV : Below V.heap.size V V1 := by rw [hV1]; exact al (Below.refl _ _) _
      have hgr : V.grownBy V1 none := ⟨hbV.os, hbV.tape, hbV.output, hbV.size, fun k hk _ => hbV.block k hk⟩
      have HKV : Hid (KeepsFrom z.heap.size V V1) := (show KeepsFrom z.heap.size V V1 by rw [hV1]; exact (KeepsOthers.alloc _ _).from _)
      have hbx : V1.heap[V.heap.size]? = some (.cells #[.slice (some ⟨bq, oq, none⟩) count CQ] 68 (0, 0)) := by rw [hV1]; exact heap_alloc_new V _
      have HGR : Hid (V.grownBy V1 none) := hgr
      have HS1 : Hid (V1.heap.size = V.heap.size + 1) := hs1
      obtain ⟨gb, hgb⟩ : ∃ gb, gb = V.heap.size := ⟨_, rfl⟩
      have HGB : Hid (gb = V.heap.size) := hgb
      rw [← hgb] at hbx ⊢
      obtain ⟨Z2, hZ2⟩ : ∃ Z2 : BlkS, Z2 = fun k => Z1 k ∨ (V.heap.size ≤ k ∧ k < V1.heap.size) := ⟨_, rfl⟩
      have HZ2 : Hid (∀ k, Z1 k → Z2 k) := fun k hk => by rw [hZ2]; exact .inl hk
      have HZ2l : Hid (∀ k, Z2 k → k < V1.heap.size) := fun k hk => by
        rw [hZ2] at hk
        rcases hk with hk | ⟨-, hk⟩
        · have := hZ1lt k hk; omega
        · exact hk
      have hZ2b : Z2 gb := by rw [hZ2]; exact .inr ⟨by omega, by omega⟩
      have HJ2 : Hid (J (fallF P count pre) Z2 V1) := (show J (fallF P count pre) Z2 V1 by rw [hZ2]; exact hJ.grow _ Z1 V V1 none hj hgr (fun r e => by cases e))
      have HYV : Hid (V1.heap[gy]? = some (.cells #[.func (.yield l) #[] #[]] 103 (0, 0))) := heap_kept hyv hgr (fun r e => by cases e)
      have HR1 : Hid (V1.heap[l1]? = some (.loop r1)) := (hbV.block l1 (Array.getElem?_eq_some_iff.1 hr1).1).trans hr1
      have HRZ : Hid (∀ u, KeepZ Z2 V1 u → RdE u (some ⟨bq, oq, none⟩) P[x.val]) := fun u hu => by
        have h9 : KeepZ Z1 z u := fun k hk => (hu k (HZ2.out k hk)).trans ((hbV.block k (by have := hZ1lt k hk; omega)).trans (hkz k hk))
        obtain ⟨_, _, _, _, _, h8⟩ := (HRR.out u (hZ01 u h9)).1 x.val x.isLt
        rw [HAQ.out] at h8
        exact h8
      have HSE : Hid _ := backE_stops (n - 1 - 1 - 1) (by omega) gb Z2 (P[x.val].take count) (some ⟨bq, oq, none⟩) count CQ HKL.out (by omega) V1 HZ2l.out (fun u hu => ⟨(HRZ.out u hu).take _, cell_heap (by rw [cell_of_row _ _ _ _ _ _ hbx]; rfl) (hu _ hZ2b)⟩)
      have HPRE : Hid (pre.length < P.length) := hlt
      clear hV1 hbV hgr hbx hs1 hgb hZ2 hZ2b hr1
      gi_wp2
      refine wpIn_rangeFunc_ownN (l₀ := l1) (r₀ := r1) rfl HR1.out (by omega) (gf := 72) (lb := #[.pointer (some ⟨gb, 0, none⟩)]) rfl trivial (enters_of Try.func72 (by kernel_rfl) rfl)
        (SeqStopsK.inRound l1 HSE.out) (fun h k => ⟨Nat.le_trans h.1 k.1, h.2.trans k.2⟩) (fun U l o o' hl _ _ _ => ⟨by simp, keepZ_put U o' (fun hz => by have := HZ2l.out l hz; omega)⟩) (Below.refl _ _) (fun _ => rfl)
        (fun pre2 U => J (fallF P count pre ++ pre2.map Prod.snd) Z2 U ∧ U.heap[gy]? = some (.cells #[.func (.yield l) #[] #[]] 103 (0, 0)) ∧ V1.heap.size ≤ U.heap.size ∧ KeepZ Z2 V1 U ∧ KeepsFrom z.heap.size V U)
        (fun c pre2 U => c = .ret ∧ Jx (fallF P count pre ++ pre2.map Prod.snd) Z2 U ∧ KeepsFrom z.heap.size V U)
        (fun s A B row hs hg hr => ⟨hJ.less _ _ _ _ (hJ.grow _ Z2 A B row hs.1 hg (fun r e => ⟨by have := (hr r e).1; have := HGY.out; have := HS1.out; omega, (hr r e).2⟩)) (fun k hk => .inl hk), heap_kept hs.2.1 hg (fun r e => (hr r e).2), Nat.le_trans hs.2.2.1 hg.size, (fun k hk => (hg.block k (by have := HZ2l.out k hk; have := hs.2.2.1; omega) (fun e => by have := (hr k e.symm).1; have := HZ2l.out k hk; omega)).trans (hs.2.2.2.1 k hk)), (ownFrom_keepsFrom (β := Unit) (B := z.heap.size) (B' := V1.heap.size) (w₀ := V) (by have := HS1.out; omega)) () A B row hs.2.2.2.2 hg hr⟩)
        (fun c s A B row hs hg hr => ⟨hs.1, hJx.less _ _ _ _ (hJx.grow _ Z2 A B row hs.2.1 hg (fun r e => ⟨by have := (hr r e).1; have := HGY.out; have := HS1.out; omega, (hr r e).2⟩)) (fun k hk => .inl hk), (ownFrom_keepsFrom (β := Unit) (B := z.heap.size) (B' := V1.heap.size) (w₀ := V) (by have := HS1.out; omega)) () A B row hs.2.2 hg hr⟩)
        ⟨by simpa using HJ2.out, HYV.out, Nat.le_refl _, fun _ _ => rfl, HKV.out⟩
        (fun x2 a' U => ∃ Bx, V1.heap.size ≤ Bx ∧ U.heap[Bx]? = some (.cells #[.int .u64 (x2.2.st.1 : Int), .int .u64 (x2.2.st.2 : Int), x2.2.v] tEn (0, 0)) ∧ a' = { tmps := #[.func (.yield l) #[] #[], .pointer (some ⟨g2, 0, none⟩), .pointer (some ⟨g3, 0, none⟩), .pointer (some ⟨gy, 0, none⟩), .int .i64 (q : Int), .slice (some ⟨bq, oq, none⟩) count CQ, undef, .pointer (some ⟨Bx, 0, none⟩), .slice (some ⟨b9, o9, none⟩) np cap, .func (.func 71) #[] #[.pointer (some ⟨gp, 0, none⟩)], .int .i64 (q : Int), .slice (some ⟨bq, oq, none⟩) LQ CQ, .int .i64 (q : Int), .slice (some ⟨b9, o9, none⟩) np cap, .int .i64 (np : Int), .int .i64 (q : Int), .bool true, .slice (some ⟨bq, oq, none⟩) LQ CQ, .int .i64 (count : Int), .slice (some ⟨bq, oq, none⟩) count CQ, .slice (some ⟨bq, oq, none⟩) count CQ, .func (.func 72) #[] #[.pointer (some ⟨gb, 0, none⟩)], .int .i64 (x2.1 : Int), ea x2.2, undef, undef, undef, undef], defers := [] })
        (fun x2 a' s A B row hs hg hr => by obtain ⟨Bx, h1, h2, h3⟩ := hs; exact ⟨Bx, h1, heap_kept h2 hg (fun r e => (hr r e).2), h3⟩)
        ?assign2 ?body2 ?done2 ?stop2
      case assign2 =>
        rintro l2 pre2 ⟨i2, ⟨x1, x2⟩, xn⟩ U K ⟨hj2, hyu, hus, hkz2, hkf⟩ hK
        gi_wp2
        exact hK _ _ ((KeepsOthers.alloc _ _).from _) ⟨by simp, fun k hk => Below.heap_alloc U _ k (by have := HZ2l.out k hk; omega)⟩ ⟨hJ.new _ hj2, (Below.heap_alloc U _ _ (Array.getElem?_eq_some_iff.1 hyu).1).trans hyu, by simp; omega, (fun k hk => (Below.heap_alloc U _ k (by have := HZ2l.out k hk; omega)).trans (hkz2 k hk)), KeepsFrom.trans hkf ((KeepsOthers.alloc _ _).from _)⟩ ⟨U.heap.size, hus, heap_alloc_new U _, rfl⟩
      case body2 =>
        rintro l2 pre2 ⟨i2, ⟨x1, x2⟩, xn⟩ a' U hl2 hlr2 ⟨hj2, hyu, hus, hkz2, hkf⟩ ⟨Bx, hBx, hX, rfl⟩ hlt2
        have hx0 : U.cell? ⟨Bx, 0, none⟩ = some (.int .u64 (x1 : Int)) := by rw [cell_of_row _ _ _ _ _ _ hX]; rfl
        have hx1 : U.cell? ⟨Bx, 1, none⟩ = some (.int .u64 (x2 : Int)) := by rw [cell_of_row _ _ _ _ _ _ hX]; rfl
        have hx2 : U.cell? ⟨Bx, 2, none⟩ = some (.int .u64 (xn : Int)) := by rw [cell_of_row _ _ _ _ _ _ hX]; rfl
        have hcy : U.cell? ⟨gy, 0, none⟩ = some (.func (.yield l) #[] #[]) := by rw [cell_of_row _ _ _ _ _ _ hyu]; rfl
        have hlen : (fallF P count pre ++ pre2.map Prod.snd).length < N := by
          have h9 := fallF_len hlp count pre
          have h8 := hN _ HPRE.out
          have h7 := HNP.out
          rw [List.length_append, List.length_map]
          have h6 : pre2.length < LQ + 1 := by have h5 := hlt2; rw [List.length_take, ← HLQ.out] at h5; omega
          omega
        obtain ⟨fn, tmps, assign, body, hy, hRd⟩ := yield_any (m' := n - 1 - 1 - 1 - 1 - 1) (HY.out _ Z2 (⟨(x1, x2), xn⟩ : Ent) U hj2 hlen)
        dsimp only [ea, Ent.v] at hy
        have hgyW : W.heap.size ≤ V1.heap.size := by have := HGY.out; have := HS1.out; omega
        have hgyz : W.heap.size ≤ z.heap.size := by have := HGY.out; omega
        gi_wp2
        refine ⟨fun h => (by cases h), ?_⟩
        refine RoundIn.mono hRd ?_
        rintro e U3 ⟨k3, z3, (⟨rfl, hJ3⟩ | ⟨rfl, hJx3⟩)⟩
        · gi_wp2
          exact ⟨keeps_up k3 hgyW, ⟨k3.size, z3⟩, by rw [List.map_append, ← List.append_assoc]; exact hJ3, (z3 _ (HZ2.out _ hZy)).trans hyu, Nat.le_trans hus k3.size, hkz2.trans z3, KeepsFrom.trans hkf (keeps_up k3 hgyz)⟩
        · gi_wp2
          exact ⟨keeps_up k3 hgyW, rfl, by rw [List.map_append, ← List.append_assoc]; exact hJx3, KeepsFrom.trans hkf (keeps_up k3 hgyz)⟩
      case done2 =>
        rintro zs U rfl ⟨hj2, hyu, hus, hkz2, hkf⟩
        have hkv : KeepZ Z1 V U := fun k hk => (hkz2 k (HZ2.out k hk)).trans (HGR.out.block k (by have := hZ1lt k hk; omega) (fun e => by cases e))
        have hjj : J (fallF P count (pre ++ [x])) Z1 U := by
          rw [fallF_snoc, HFO.out, ← bkE_snd]
          exact hJ.less _ _ _ _ hj2 HZ2.out
        gi_wp2
        exact ⟨hkf, ⟨by have := HS1.out; omega, hkv⟩, hjj, hyu, by have := HS1.out; omega, hkz.trans hkv, by rw [List.length_append]; have := HPRE.out; simp; omega⟩
      case stop2 =>
        rintro c pre2 U hpre2 ⟨rfl, hjx, hkf⟩
        have hjj : Jx (fallF P count pre ++ (fallOf P count x.val).take pre2.length) Z1 U := by
          rw [HFO.out, ← bkE_snd, ← List.map_take, ← List.prefix_iff_eq_take.1 hpre2]
          exact hJx.less _ _ _ _ hjx HZ2.out
        gi_wp2
        exact ⟨hkf, rfl, pre, x, pre2.length, rfl, hjj⟩
    · have hlasti : ¬ ((q : Int) = (np1 : Int)) := by omega
      have hlastb : ((q : Int) == (np1 : Int)) = false := by simpa using hlasti
      gi_wp2
      have HFO : Hid (fallOf P count x.val = (P[x.val].take LQ).reverse) := (show _ = _ by
        unfold fallOf
        rw [show P.getD x.val [] = P[x.val] by simp [List.getD]]
        rw [if_neg (by have := HX.out; have := HNP1.out; have := HNP.out; omega), HLQ.out])
      have HKL : Hid (LQ = (P[x.val].take LQ).length) := (show LQ = _ by rw [List.length_take, ← HLQ.out]; omega)
      refine ⟨trivial, fun h9 => (by cases h9), ?_⟩
      refine (callsIn_round.2 (backE_t (some ⟨bq, oq, none⟩) LQ CQ V)).mono ?_
      rintro e V1 ⟨rfl, hV1⟩
      have HV1 : Hid (V1 = V.alloc (.cells #[.slice (some ⟨bq, oq, none⟩) LQ CQ] 68)) := hV1
      have hs1 : V1.heap.size = V.heap.size + 1 := by rw [hV1]; simp
      have hbV : Below V.heap.size V V1 := by rw [hV1]; exact al (Below.refl _ _) _
      have hgr : V.grownBy V1 none := ⟨hbV.os, hbV.tape, hbV.output, hbV.size, fun k hk _ => hbV.block k hk⟩
      have HKV : Hid (KeepsFrom z.heap.size V V1) := (show KeepsFrom z.heap.size V V1 by rw [hV1]; exact (KeepsOthers.alloc _ _).from _)
      have hbx : V1.heap[V.heap.size]? = some (.cells #[.slice (some ⟨bq, oq, none⟩) LQ CQ] 68 (0, 0)) := by rw [hV1]; exact heap_alloc_new V _
      have HGR : Hid (V.grownBy V1 none) := hgr
      have HS1 : Hid (V1.heap.size = V.heap.size + 1) := hs1
      obtain ⟨gb, hgb⟩ : ∃ gb, gb = V.heap.size := ⟨_, rfl⟩
      have HGB : Hid (gb = V.heap.size) := hgb
      rw [← hgb] at hbx ⊢
      obtain ⟨Z2, hZ2⟩ : ∃ Z2 : BlkS, Z2 = fun k => Z1 k ∨ (V.heap.size ≤ k ∧ k < V1.heap.size) := ⟨_, rfl⟩
      have HZ2 : Hid (∀ k, Z1 k → Z2 k) := fun k hk => by rw [hZ2]; exact .inl hk
      have HZ2l : Hid (∀ k, Z2 k → k < V1.heap.size) := fun k hk => by
        rw [hZ2] at hk
        rcases hk with hk | ⟨-, hk⟩
        · have := hZ1lt k hk; omega
        · exact hk
      have hZ2b : Z2 gb := by rw [hZ2]; exact .inr ⟨by omega, by omega⟩
      have HJ2 : Hid (J (fallF P count pre) Z2 V1) := (show J (fallF P count pre) Z2 V1 by rw [hZ2]; exact hJ.grow _ Z1 V V1 none hj hgr (fun r e => by cases e))
      have HYV : Hid (V1.heap[gy]? = some (.cells #[.func (.yield l) #[] #[]] 103 (0, 0))) := heap_kept hyv hgr (fun r e => by cases e)
      have HR1 : Hid (V1.heap[l1]? = some (.loop r1)) := (hbV.block l1 (Array.getElem?_eq_some_iff.1 hr1).1).trans hr1
      have HRZ : Hid (∀ u, KeepZ Z2 V1 u → RdE u (some ⟨bq, oq, none⟩) P[x.val]) := fun u hu => by
        have h9 : KeepZ Z1 z u := fun k hk => (hu k (HZ2.out k hk)).trans ((hbV.block k (by have := hZ1lt k hk; omega)).trans (hkz k hk))
        obtain ⟨_, _, _, _, _, h8⟩ := (HRR.out u (hZ01 u h9)).1 x.val x.isLt
        rw [HAQ.out] at h8
        exact h8
      have HSE : Hid _ := backE_stops (n - 1 - 1 - 1) (by omega) gb Z2 (P[x.val].take LQ) (some ⟨bq, oq, none⟩) LQ CQ HKL.out (by omega) V1 HZ2l.out (fun u hu => ⟨(HRZ.out u hu).take _, cell_heap (by rw [cell_of_row _ _ _ _ _ _ hbx]; rfl) (hu _ hZ2b)⟩)
      have HPRE : Hid (pre.length < P.length) := hlt
      clear hV1 hbV hgr hbx hs1 hgb hZ2 hZ2b hr1
      gi_wp2
      refine wpIn_rangeFunc_ownN (l₀ := l1) (r₀ := r1) rfl HR1.out (by omega) (gf := 72) (lb := #[.pointer (some ⟨gb, 0, none⟩)]) rfl trivial (enters_of Try.func72 (by kernel_rfl) rfl)
        (SeqStopsK.inRound l1 HSE.out) (fun h k => ⟨Nat.le_trans h.1 k.1, h.2.trans k.2⟩) (fun U l o o' hl _ _ _ => ⟨by simp, keepZ_put U o' (fun hz => by have := HZ2l.out l hz; omega)⟩) (Below.refl _ _) (fun _ => rfl)
        (fun pre2 U => J (fallF P count pre ++ pre2.map Prod.snd) Z2 U ∧ U.heap[gy]? = some (.cells #[.func (.yield l) #[] #[]] 103 (0, 0)) ∧ V1.heap.size ≤ U.heap.size ∧ KeepZ Z2 V1 U ∧ KeepsFrom z.heap.size V U)
        (fun c pre2 U => c = .ret ∧ Jx (fallF P count pre ++ pre2.map Prod.snd) Z2 U ∧ KeepsFrom z.heap.size V U)
        (fun s A B row hs hg hr => ⟨hJ.less _ _ _ _ (hJ.grow _ Z2 A B row hs.1 hg (fun r e => ⟨by have := (hr r e).1; have := HGY.out; have := HS1.out; omega, (hr r e).2⟩)) (fun k hk => .inl hk), heap_kept hs.2.1 hg (fun r e => (hr r e).2), Nat.le_trans hs.2.2.1 hg.size, (fun k hk => (hg.block k (by have := HZ2l.out k hk; have := hs.2.2.1; omega) (fun e => by have := (hr k e.symm).1; have := HZ2l.out k hk; omega)).trans (hs.2.2.2.1 k hk)), (ownFrom_keepsFrom (β := Unit) (B := z.heap.size) (B' := V1.heap.size) (w₀ := V) (by have := HS1.out; omega)) () A B row hs.2.2.2.2 hg hr⟩)
        (fun c s A B row hs hg hr => ⟨hs.1, hJx.less _ _ _ _ (hJx.grow _ Z2 A B row hs.2.1 hg (fun r e => ⟨by have := (hr r e).1; have := HGY.out; have := HS1.out; omega, (hr r e).2⟩)) (fun k hk => .inl hk), (ownFrom_keepsFrom (β := Unit) (B := z.heap.size) (B' := V1.heap.size) (w₀ := V) (by have := HS1.out; omega)) () A B row hs.2.2 hg hr⟩)
        ⟨by simpa using HJ2.out, HYV.out, Nat.le_refl _, fun _ _ => rfl, HKV.out⟩
        (fun x2 a' U => ∃ Bx, V1.heap.size ≤ Bx ∧ U.heap[Bx]? = some (.cells #[.int .u64 (x2.2.st.1 : Int), .int .u64 (x2.2.st.2 : Int), x2.2.v] tEn (0, 0)) ∧ a' = { tmps := #[.func (.yield l) #[] #[], .pointer (some ⟨g2, 0, none⟩), .pointer (some ⟨g3, 0, none⟩), .pointer (some ⟨gy, 0, none⟩), .int .i64 (q : Int), .slice (some ⟨bq, oq, none⟩) LQ CQ, undef, .pointer (some ⟨Bx, 0, none⟩), .slice (some ⟨b9, o9, none⟩) np cap, .func (.func 71) #[] #[.pointer (some ⟨gp, 0, none⟩)], .int .i64 (q : Int), .slice (some ⟨bq, oq, none⟩) LQ CQ, .int .i64 (q : Int), .slice (some ⟨b9, o9, none⟩) np cap, .int .i64 (np : Int), .int .i64 (np1 : Int), .bool false, undef, undef, undef, .slice (some ⟨bq, oq, none⟩) LQ CQ, .func (.func 72) #[] #[.pointer (some ⟨gb, 0, none⟩)], .int .i64 (x2.1 : Int), ea x2.2, undef, undef, undef, undef], defers := [] })
        (fun x2 a' s A B row hs hg hr => by obtain ⟨Bx, h1, h2, h3⟩ := hs; exact ⟨Bx, h1, heap_kept h2 hg (fun r e => (hr r e).2), h3⟩)
        ?assign2 ?body2 ?done2 ?stop2
      case assign2 =>
        rintro l2 pre2 ⟨i2, ⟨x1, x2⟩, xn⟩ U K ⟨hj2, hyu, hus, hkz2, hkf⟩ hK
        gi_wp2
        exact hK _ _ ((KeepsOthers.alloc _ _).from _) ⟨by simp, fun k hk => Below.heap_alloc U _ k (by have := HZ2l.out k hk; omega)⟩ ⟨hJ.new _ hj2, (Below.heap_alloc U _ _ (Array.getElem?_eq_some_iff.1 hyu).1).trans hyu, by simp; omega, (fun k hk => (Below.heap_alloc U _ k (by have := HZ2l.out k hk; omega)).trans (hkz2 k hk)), KeepsFrom.trans hkf ((KeepsOthers.alloc _ _).from _)⟩ ⟨U.heap.size, hus, heap_alloc_new U _, rfl⟩
      case body2 =>
        rintro l2 pre2 ⟨i2, ⟨x1, x2⟩, xn⟩ a' U hl2 hlr2 ⟨hj2, hyu, hus, hkz2, hkf⟩ ⟨Bx, hBx, hX, rfl⟩ hlt2
        have hx0 : U.cell? ⟨Bx, 0, none⟩ = some (.int .u64 (x1 : Int)) := by rw [cell_of_row _ _ _ _ _ _ hX]; rfl
        have hx1 : U.cell? ⟨Bx, 1, none⟩ = some (.int .u64 (x2 : Int)) := by rw [cell_of_row _ _ _ _ _ _ hX]; rfl
        have hx2 : U.cell? ⟨Bx, 2, none⟩ = some (.int .u64 (xn : Int)) := by rw [cell_of_row _ _ _ _ _ _ hX]; rfl
        have hcy : U.cell? ⟨gy, 0, none⟩ = some (.func (.yield l) #[] #[]) := by rw [cell_of_row _ _ _ _ _ _ hyu]; rfl
        have hlen : (fallF P count pre ++ pre2.map Prod.snd).length < N := by
          have h9 := fallF_len hlp count pre
          have h8 := hN _ HPRE.out
          have h7 := HNP.out
          rw [List.length_append, List.length_map]
          have h6 : pre2.length < LQ + 1 := by have h5 := hlt2; rw [List.length_take, ← HLQ.out] at h5; omega
          omega
        obtain ⟨fn, tmps, assign, body, hy, hRd⟩ := yield_any (m' := n - 1 - 1 - 1 - 1 - 1) (HY.out _ Z2 (⟨(x1, x2), xn⟩ : Ent) U hj2 hlen)
        dsimp only [ea, Ent.v] at hy
        have hgyW : W.heap.size ≤ V1.heap.size := by have := HGY.out; have := HS1.out; omega
        have hgyz : W.heap.size ≤ z.heap.size := by have := HGY.out; omega
        gi_wp2
        refine ⟨fun h => (by cases h), ?_⟩
        refine RoundIn.mono hRd ?_
        rintro e U3 ⟨k3, z3, (⟨rfl, hJ3⟩ | ⟨rfl, hJx3⟩)⟩
        · gi_wp2
          exact ⟨keeps_up k3 hgyW, ⟨k3.size, z3⟩, by rw [List.map_append, ← List.append_assoc]; exact hJ3, (z3 _ (HZ2.out _ hZy)).trans hyu, Nat.le_trans hus k3.size, hkz2.trans z3, KeepsFrom.trans hkf (keeps_up k3 hgyz)⟩
        · gi_wp2
          exact ⟨keeps_up k3 hgyW, rfl, by rw [List.map_append, ← List.append_assoc]; exact hJx3, KeepsFrom.trans hkf (keeps_up k3 hgyz)⟩
      case done2 =>
        rintro zs U rfl ⟨hj2, hyu, hus, hkz2, hkf⟩
        have hkv : KeepZ Z1 V U := fun k hk => (hkz2 k (HZ2.out k hk)).trans (HGR.out.block k (by have := hZ1lt k hk; omega) (fun e => by cases e))
        have hjj : J (fallF P count (pre ++ [x])) Z1 U := by
          rw [fallF_snoc, HFO.out, ← bkE_snd]
          exact hJ.less _ _ _ _ hj2 HZ2.out
        gi_wp2
        exact ⟨hkf, ⟨by have := HS1.out; omega, hkv⟩, hjj, hyu, by have := HS1.out; omega, hkz.trans hkv, by rw [List.length_append]; have := HPRE.out; simp; omega⟩
      case stop2 =>
        rintro c pre2 U hpre2 ⟨rfl, hjx, hkf⟩
        have hjj : Jx (fallF P count pre ++ (fallOf P count x.val).take pre2.length) Z1 U := by
          rw [HFO.out, ← bkE_snd, ← List.map_take, ← List.prefix_iff_eq_take.1 hpre2]
          exact hJx.less _ _ _ _ hjx HZ2.out
        gi_wp2
        exact ⟨hkf, rfl, pre, x, pre2.length, rfl, hjj⟩
  case done =>
    rintro D ys V hD hys ⟨hj, hyv, hvs, hkz, hpl⟩ hK
    gi_wp2
    refine ⟨by simp, .inl ⟨_, _, rfl, run_takeDeferred hK, ?_⟩⟩
    exact ⟨_, results_none rfl _ _ _, ⟨_, rfl⟩, .inl ⟨_, HSS.out ys hys, Z1, hJ.turn _ hj (by have := HGY.out; omega) hK rfl⟩⟩
  case stop =>
    rintro D c pre V hD hpre ⟨rfl, ps, x, k, rfl, hjx⟩ hK
    gi_wp2
    refine ⟨by simp, .inl ⟨_, _, rfl, run_takeDeferred hK, ?_⟩⟩
    exact ⟨_, results_none rfl _ _ _, ⟨_, rfl⟩, .inr ⟨_, HSX.out ps x k hpre, Z1, hJx.turn _ hjx (by have := HGY.out; omega) hK rfl⟩⟩
end
end Go.Proofs.Ytibolgpaolnheac
