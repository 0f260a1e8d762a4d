import Derived.Test.YtibolgpaolnheacQV
import Derived.Test.YtibolgpaolnheacQO2
import Derived.Deep.RegionHeld3
namespace Go.Proofs.Ytibolgpaolnheac
set_option linter.unusedVariables false
set_option linter.unusedSimpArgs false
open Go.RowKit Go.Shelf
attribute [local go_sem] Oper.semAt_some
abbrev encU (x : Ent) : Array Value := #[sv x.st, x.v]
/-- the blocks of entries -/
def EntB (w : World) : BlkS := fun k => k < w.heap.size ∧ ∃ cur fr, w.heap[k]? = some (.cells cur tEn fr)
theorem KeepZ.rdE {Z : BlkS} {V V' : World} {a : Option Addr} {xs : List Ent} (h : RdE V a xs) (hk : KeepZ Z V V') (hz : ∀ b o, a = some ⟨b, o, none⟩ → 0 < xs.length → Z b) : RdE V' a xs := fun j hj => by
  obtain ⟨b, o, h1, h2, cur, fr, h3⟩ := h j hj
  have h9 := hk b (hz b o h1 (by omega))
  exact ⟨b, o, h1, fun q v hv => cell_heap (h2 q v hv) h9, cur, fr, h9.trans h3⟩
theorem RdPA.keepZ {Z : BlkS} {V V' : World} {g3 : Nat} {P : List (List Ent)} {A : Nat → Option Addr} {C : Nat → Nat} (h : RdPA V (some ⟨g3, 0, none⟩) P A C) (hk : KeepZ Z V V') (hg : Z g3) (he : ∀ k cur fr, V.heap[k]? = some (.cells cur tEn fr) → Z k) : RdPA V' (some ⟨g3, 0, none⟩) P A C := fun j hj => by
  obtain ⟨b, o, h1, h2, h3, h4⟩ := h j hj
  cases h1
  exact ⟨g3, 0, rfl, cell_heap h2 (hk g3 hg), h3, hk.rdE h4 (fun b o e hp => by obtain ⟨b', o', e', -, cur, fr, h9⟩ := h4 0 hp; rw [e] at e'; cases e'; exact he b cur fr h9)⟩
section
set_option maxHeartbeats 6400000
set_option maxRecDepth 100000
/-- Up's closure: all entries from s on, of an index that has pages -/
theorem up_stops (n : Nat) (hn3 : 4 ≤ n) (gx gs : Nat) (g b o np cap : Nat) (P : List (List Ent)) (s1 s2 : Nat) (w : World)
    (hx : w.cell? ⟨gx, 0, none⟩ = some (.pointer (some ⟨g, 0, none⟩))) (hs : w.rangeAt gs 0 (sc (s1, s2))) (hpg : PgV w (.pointer (some ⟨g, 0, none⟩)) (some ⟨b, o, none⟩) np cap) (hn : np = P.length) (h0 : 0 < np) (hcap : np ≤ cap) (hrd : RdP w (some ⟨b, o, none⟩) P) (hsp : SP P) (hl : np ≤ 4398046511104) (hlp : ∀ p ∈ P, p.length ≤ 100)
    (p i : Nat) (ok : Bool) (hpl : PlaceIs P (s1, s2) p i ok) :
    SeqG Fence.wide n Try.prog 57 #[.pointer (some ⟨gx, 0, none⟩), .pointer (some ⟨gs, 0, none⟩)] encU (EntB w) (fun xs => xs = (P.drop p).flatten.drop i) (fun pre => pre <+: (P.drop p).flatten.drop i) ((P.drop p).flatten.drop i).length w := by
  intro l J Jx W hwW hnc hJ hJx hY hJ0
  have h1 : 1 ≤ n := by omega
  refine callsIn_of_wp_marks Try.func57 rfl trivial ?_ rfl
  simp only [Try.ntmps57, List.size_toArray, List.length_cons, List.length_nil, Nat.reduceAdd, Nat.reduceSub, Array.replicate_succ, Array.replicate_zero, List.push_toArray, List.append_toArray, List.nil_append, List.cons_append]
  obtain ⟨W1, hW1⟩ : ∃ X : World, X = W.alloc (.cells #[.func (.yield l) #[] #[]] 51) := ⟨_, rfl⟩
  have hb1 : Below W.heap.size W W1 := by rw [hW1]; exact al (Below.refl _ _) _
  have hxW : W.cell? ⟨gx, 0, none⟩ = some (.pointer (some ⟨g, 0, none⟩)) := (hwW.cell (World.block_lt_of_cell? w _ hx)).trans hx
  have hsW := rangeAt_below hs hwW
  have hq0 := hsW 0 _ rfl
  have hq1 := hsW 1 _ rfl
  have hgl : gx < W.heap.size := World.block_lt_of_cell? W _ hxW
  have hgl2 : gs < W.heap.size := World.block_lt_of_cell? W _ hq0
  have hwW1 : Below w.heap.size w W1 := below_next hwW hb1
  have HFR : Hid _ := from_t (.pointer (some ⟨g, 0, none⟩)) b o np cap P s1 s2 W1 (hpg.below hwW1) hn hcap h0 (hrd.below hwW1) hsp hl hlp
  have HYB : Hid (W1.heap[W.heap.size]? = some (.cells #[.func (.yield l) #[] #[]] 51 (0, 0))) := (show W1.heap[W.heap.size]? = some (.cells #[.func (.yield l) #[] #[]] 51 (0, 0)) by rw [hW1]; exact heap_alloc_new W _)
  have HB1 : Hid (Below W.heap.size W W1) := hb1
  have HWW : Hid (Below w.heap.size w W) := hwW
  have HNC : Hid _ := hnc
  have HY : Hid _ := hY
  clear hsW hwW1 hb1 hnc hY hpg hs hx
  gi_wp2
  refine ⟨trivial, ?_⟩
  rw [← hW1]
  refine (callsIn_wide.2 HFR.out).mono ?_
  rintro e W2 ⟨p', i', ok', rfl, hpl', hpn, hb2⟩
  obtain ⟨e1, e2, e3⟩ := hpl'.uniq hpl
  subst e1 e2 e3
  obtain ⟨m, hm⟩ : ∃ m, m = np - p' := ⟨_, rfl⟩
  obtain ⟨cp, hcp⟩ : ∃ cp, cp = cap - p' := ⟨_, rfl⟩
  rw [← hm, ← hcp]
  have HB2 : Hid (Below W.heap.size W W2) := below_next HB1.out hb2
  have hne : ∀ q ∈ P.drop p', 0 < q.length := fun q hq => hsp.1 q (List.mem_of_mem_drop hq)
  have hml : m = (P.drop p').length := by rw [List.length_drop, hm, hn]
  have HYB2 : Hid (W2.heap[W.heap.size]? = some (.cells #[.func (.yield l) #[] #[]] 51 (0, 0))) := (hb2.block _ (Array.getElem?_eq_some_iff.1 HYB.out).1).trans HYB.out
  have HCL : Hid _ := cloneP_t b (o + p') m cp (P.drop p') W2 hml (by omega) (((hrd.below HWW.out).below HB2.out).drop p') (by omega) hne
  have HN : Hid (np = P.length) := hn
  have HML : Hid (m = (P.drop p').length) := hml
  have HMB : Hid (m ≤ 4398046511104 ∧ 0 < m) := ⟨by omega, by omega⟩
  clear hm hcp hml hn hb2 hW1
  gi_wp2
  refine ⟨trivial, ?_⟩
  refine (callsIn_wide.2 HCL.out).mono ?_
  rintro e W3 ⟨g3, c3, rfl, hrd3, hg3, hb3⟩
  have HB3 : Hid (Below W.heap.size W W3) := below_next HB2.out hb3
  have HYB3 : Hid (W3.heap[W.heap.size]? = some (.cells #[.func (.yield l) #[] #[]] 51 (0, 0))) := (hb3.block _ (Array.getElem?_eq_some_iff.1 HYB2.out).1).trans HYB2.out
  have HG3 : Hid (W.heap.size ≤ g3) := Nat.le_trans HB2.out.size hg3
  have HRD3 : Hid (RdP W3 (some ⟨g3, 0, none⟩) (P.drop p')) := hrd3
  have HRI : Hid _ := rising_t (some ⟨g3, 0, none⟩) m c3 i' W3
  clear hrd3 hg3 hb3
  gi_wp2
  refine ⟨trivial, ?_⟩
  refine (callsIn_wide.2 HRI.out).mono ?_
  rintro e W4 ⟨rfl, hW4⟩
  have hb4 : Below W3.heap.size W3 W4 := by rw [hW4]; exact al (al (Below.refl _ _) _) _
  have hz4 : W4.heap.size = W3.heap.size + 2 := by rw [hW4]; simp
  have hz2 := two_new W3 (.cells #[.slice (some ⟨g3, 0, none⟩) m c3] tPs) (.cells #[.int .i64 (i' : Int)] 3)
  rw [← hW4] at hz2
  have hB4 : Below W.heap.size W W4 := below_next HB3.out hb4
  obtain ⟨A, C, hA⟩ := (HRD3.out.below hb4).fix
  have hY4 : W4.heap[W.heap.size]? = some (.cells #[.func (.yield l) #[] #[]] 51 (0, 0)) := (hb4.block _ (Array.getElem?_eq_some_iff.1 HYB3.out).1).trans HYB3.out
  obtain ⟨Z, hZ⟩ : ∃ Z : BlkS, Z = fun k => EntB w k ∨ (W.heap.size ≤ k ∧ k < W4.heap.size) := ⟨_, rfl⟩
  have hJ4 : J [] Z W4 := by rw [hZ]; exact hJ.grow [] (EntB w) W W4 none hJ0 ⟨hB4.os, hB4.tape, hB4.output, hB4.size, fun k hk _ => hB4.block k hk⟩ (fun r e => by cases e)
  have hZlt : ∀ k, Z k → k < W4.heap.size := fun k hk => by
    rw [hZ] at hk
    rcases hk with ⟨h9, -⟩ | ⟨-, h9⟩
    · have := HWW.out.size; have := hB4.size; omega
    · exact h9
  have hZe : ∀ k cur fr, W4.heap[k]? = some (.cells cur tEn fr) → Z k := fun k cur fr hk => by
    have hlt := (Array.getElem?_eq_some_iff.1 hk).1
    rw [hZ]
    by_cases h9 : W.heap.size ≤ k
    · exact .inr ⟨h9, hlt⟩
    · have hkW : W.heap[k]? = some (.cells cur tEn fr) := (hB4.block k (by omega)).symm.trans hk
      by_cases h8 : w.heap.size ≤ k
      · obtain ⟨o9, h7, h6⟩ := HNC.out k h8 (by omega)
        rw [hkW] at h7; cases h7; cases h6
      · exact .inl ⟨by omega, cur, fr, (HWW.out.block k (by omega)).symm.trans hkW⟩
  have hZg : Z g3 := by
    obtain ⟨b9, o9, e9, h9, -⟩ := hA 0 (by have := HML.out; have := HMB.out; omega)
    cases e9
    rw [hZ]; exact .inr ⟨HG3.out, World.block_lt_of_cell? W4 _ h9⟩
  have hWs : W.heap.size ≤ W3.heap.size := HB3.out.size
  have hZ1 : Z W3.heap.size := by rw [hZ]; exact .inr ⟨hWs, by omega⟩
  have hZ2 : Z (W3.heap.size + 1) := by rw [hZ]; exact .inr ⟨by omega, by omega⟩
  have hZy : Z W.heap.size := by rw [hZ]; exact .inr ⟨Nat.le_refl _, (Array.getElem?_eq_some_iff.1 hY4).1⟩
  have hiP : i' ≤ ((P.drop p').getD 0 []).length := by
    rcases hpl with ⟨h9, -⟩ | ⟨r, -, -, h3, h4, -⟩
    · have := HN.out; rw [h9] at this; simp at this; omega
    · have e9 : (P.drop p').getD 0 [] = P.getD p' [] := by simp [List.getD, List.getElem?_drop]
      rw [e9]; exact h4.1
  have HSQ : Hid (SeqStopsK Fence.wide (n - 1) Try.prog 63 #[.pointer (some ⟨W3.heap.size, 0, none⟩), .pointer (some ⟨W3.heap.size + 1, 0, none⟩)] (fun x : Ent => #[ea x]) (fun V V' => V.heap.size ≤ V'.heap.size ∧ KeepZ Z V V') (fun ys => ys = (P.drop p').flatten.drop i') (fun pre => pre <+: (P.drop p').flatten.drop i') ((P.drop p').flatten.drop i').length W4) := fun l' J' Jx' U hU hJ' hJx' hY' hJ0' =>
    rising_in Fence.wide (n - 1) trivial rfl (by omega) l' W3.heap.size (W3.heap.size + 1) (fun V V' => V.heap.size ≤ V'.heap.size ∧ KeepZ Z V V') (fun V => ⟨Nat.le_refl _, fun _ _ => rfl⟩) (fun h k => ⟨Nat.le_trans h.1 k.1, h.2.trans k.2⟩) (fun h => h.1) (P.drop p') i' (some ⟨g3, 0, none⟩) m c3 HML.out HMB.out.1 (fun q hq => hlp q (List.mem_of_mem_drop hq)) hiP J' Jx' hY' U (fun V o hV => ⟨by simp, fun k hk => Below.heap_alloc V o k (by have := hZlt k hk; have := hU.size; omega)⟩) hJ' A C hne (fun u hu => by
      have hku : KeepZ Z W4 u := fun k hk => (hu.2 k hk).trans (hU.block k (hZlt k hk))
      refine ⟨hA.keepZ hku hZg hZe, ?_, ?_⟩
      · exact cell_heap (by rw [cell_of_row _ _ _ _ _ _ hz2.1]; rfl) (hku _ hZ1)
      · exact cell_heap (by rw [cell_of_row _ _ _ _ _ _ hz2.2]; rfl) (hku _ hZ2)) hJ0'
  have hW4s : W.heap.size ≤ W4.heap.size := hB4.size
  clear hW4 hz2 hA hiP
  gi_wp2
  refine wpIn_rangeFunc_ownH rfl h1 (gf := 63) (lb := #[.pointer (some ⟨W3.heap.size, 0, none⟩), .pointer (some ⟨W3.heap.size + 1, 0, none⟩)]) rfl trivial (enters_of Try.func63 (by kernel_rfl) rfl)
    HSQ.out (fun h k => ⟨Nat.le_trans h.1 k.1, h.2.trans k.2⟩) (fun V l o o' hl _ _ _ => ⟨by simp, keepZ_put V o' (fun hz => by have := hZlt l hz; omega)⟩) (Below.refl _ _) (fun _ => rfl)
    (fun pre V => J pre Z V ∧ V.heap[W.heap.size]? = some (.cells #[.func (.yield l) #[] #[]] 51 (0, 0)) ∧ W4.heap.size ≤ V.heap.size)
    (fun c pre V => c = .ret ∧ Jx pre Z V)
    (fun s A B row hs hg hr => ⟨hJ.less _ _ _ _ (hJ.grow s Z A B row hs.1 hg (fun r e => ⟨by have := (hr r e).1; omega, (hr r e).2⟩)) (fun k hk => .inl hk), heap_kept hs.2.1 hg (fun r e => (hr r e).2), Nat.le_trans hs.2.2 hg.size⟩)
    (fun c s A B row hs hg hr => ⟨hs.1, hJx.less _ _ _ _ (hJx.grow s Z A B row hs.2 hg (fun r e => ⟨by have := (hr r e).1; omega, (hr r e).2⟩)) (fun k hk => .inl hk)⟩)
    ⟨hJ4, hY4, Nat.le_refl _⟩
    (fun x a' V => ∃ Bx, V.heap[Bx]? = some (.cells #[.int .u64 (x.st.1 : Int), .int .u64 (x.st.2 : Int), x.v] tEn (0, 0)) ∧ a' = { tmps := #[.func (.yield l) #[] #[], .pointer (some ⟨gx, 0, none⟩), .pointer (some ⟨gs, 0, none⟩), .pointer (some ⟨W.heap.size, 0, none⟩), .slice (some ⟨b, o + p', none⟩) m cp, .int .i64 (i' : Int), .pointer (some ⟨Bx, 0, none⟩), .tuple #[.slice (some ⟨b, o + p', none⟩) m cp, .int .i64 (i' : Int)], .pointer (some ⟨g, 0, none⟩), .agg #[.int .u64 (s1 : Int), .int .u64 (s2 : Int)], .tuple #[.slice (some ⟨b, o + p', none⟩) m cp, .int .i64 (i' : Int)], .slice (some ⟨b, o + p', none⟩) m cp, .int .i64 (i' : Int), .slice (some ⟨b, o + p', none⟩) m cp, .slice (some ⟨g3, 0, none⟩) m c3, .int .i64 (i' : Int), .func (.func 63) #[] #[.pointer (some ⟨W3.heap.size, 0, none⟩), .pointer (some ⟨W3.heap.size + 1, 0, none⟩)], ea x, undef, undef, undef, undef, undef, undef, undef], defers := [] })
    (fun x a' s A B row hs hg hr => by obtain ⟨Bx, h2, h3⟩ := hs; exact ⟨Bx, heap_kept h2 hg (fun r e => (hr r e).2), h3⟩)
    ?assign ?body ?done ?stop
  case assign =>
    rintro l' pre ⟨⟨x1, x2⟩, xn⟩ V K ⟨hj, hyb, hvs⟩ hK
    gi_wp2
    exact hK _ _ ((KeepsOthers.alloc _ _).from _) ⟨by simp, fun k hk => Below.heap_alloc V _ k (by have := hZlt k hk; omega)⟩ ⟨hJ.new _ hj, (Below.heap_alloc V _ _ (Array.getElem?_eq_some_iff.1 hyb).1).trans hyb, by simp; omega⟩ ⟨V.heap.size, heap_alloc_new V _, rfl⟩
  case body =>
    rintro l' pre ⟨⟨x1, x2⟩, xn⟩ a' V hl hlr ⟨hj, hyb, hvs⟩ ⟨Bx, hX, rfl⟩ hlt
    have hx0 : V.cell? ⟨Bx, 0, none⟩ = some (.int .u64 (x1 : Int)) := by rw [cell_of_row _ _ _ _ _ _ hX]; rfl
    have hx1 : V.cell? ⟨Bx, 1, none⟩ = some (.int .u64 (x2 : Int)) := by rw [cell_of_row _ _ _ _ _ _ hX]; rfl
    have hx2 : V.cell? ⟨Bx, 2, none⟩ = some (.int .u64 (xn : Int)) := by rw [cell_of_row _ _ _ _ _ _ hX]; rfl
    have hcy : V.cell? ⟨W.heap.size, 0, none⟩ = some (.func (.yield l) #[] #[]) := by rw [cell_of_row _ _ _ _ _ _ hyb]; rfl
    obtain ⟨fn, tmps, assign, body, hy, hRd⟩ := yield_any (m' := n - 1 - 1 - 1) (HY.out pre Z (⟨(x1, x2), xn⟩ : Ent) V hj hlt)
    dsimp only [encU, Ent.v] at hy
    gi_wp2
    refine ⟨fun h => (by cases h), ?_⟩
    refine RoundIn.mono hRd ?_
    rintro e V3 ⟨k3, z3, (⟨rfl, hJ3⟩ | ⟨rfl, hJx3⟩)⟩
    · gi_wp2
      exact ⟨keeps_up k3 hW4s, ⟨k3.size, z3⟩, hJ3, (z3 _ hZy).trans hyb, Nat.le_trans hvs k3.size⟩
    · gi_wp2
      exact ⟨keeps_up k3 hW4s, rfl, hJx3⟩
  case done =>
    rintro D ys V hD rfl ⟨hj, -, -⟩ hK
    gi_wp2
    refine ⟨by simp, .inl ⟨_, _, rfl, run_takeDeferred hK, ?_⟩⟩
    exact ⟨_, results_none rfl _ _ _, ⟨_, rfl⟩, .inl ⟨_, Z, rfl, hJ.turn _ hj (by omega) hK rfl⟩⟩
  case stop =>
    rintro D c pre V hD hpre ⟨rfl, hjx⟩ hK
    gi_wp2
    refine ⟨by simp, .inl ⟨_, _, rfl, run_takeDeferred hK, ?_⟩⟩
    exact ⟨_, results_none rfl _ _ _, ⟨_, rfl⟩, .inr ⟨_, Z, hpre, hJx.turn _ hjx (by omega) hK rfl⟩⟩
end
end Go.Proofs.Ytibolgpaolnheac
namespace Go.Proofs.Ytibolgpaolnheac
set_option linter.unusedVariables false
set_option linter.unusedSimpArgs false
open Go.RowKit Go.Shelf
attribute [local go_sem] Oper.semAt_some
section
set_option maxHeartbeats 6400000
set_option maxRecDepth 100000
theorem clone0_t (pa : Option Addr) (cap : Nat) (hpa : (pa = none ∧ cap = 0) ∨ (∃ b o, pa = some ⟨b, o, none⟩)) (w : World) :
    Calls Try.prog 58 #[.slice pa 0 cap] w fun e w' => ∃ pa' c', e = .returned (.slice pa' 0 c') ∧ Below w.heap.size w w' := by
  have q22 : ∀ (w : World) (a : Option Addr) (n c n' c' : Nat), (binOp .eql tPs (.slice a n c) (.slice none n' c')).run Try.prog w = .ok (.bool a.isNone) w := fun w a n c n' c' => Lib.run_eql_slice_nil w _ _ a n c n' c' Try.underlying66
  rcases hpa with ⟨rfl, rfl⟩ | ⟨b, o, rfl⟩
  · go_enter Try.func58, Try.ntmps58
    go_wp2
    go_ret
    exact ⟨_, _, rfl, Below.refl _ _⟩
  · go_enter Try.func58, Try.ntmps58
    go_wp2
    go_ret
    exact ⟨_, _, rfl, al (Below.refl _ _) _⟩
/-- Up's closure: nothing, of an index that has no pages -/
theorem up_stops0 (n : Nat) (hn3 : 4 ≤ n) (gx gs : Nat) (x : Value) (pa : Option Addr) (cap : Nat) (hpa : (pa = none ∧ cap = 0) ∨ (∃ b o, pa = some ⟨b, o, none⟩)) (hx1 : x.oneCell' = true) (g : Option Addr) (hxg : x = .pointer g) (s1 s2 : Nat) (w : World)
    (hx : w.cell? ⟨gx, 0, none⟩ = some x) (hs : w.rangeAt gs 0 (sc (s1, s2))) (hpg : PgV w x pa 0 cap) :
    SeqG Fence.wide n Try.prog 57 #[.pointer (some ⟨gx, 0, none⟩), .pointer (some ⟨gs, 0, none⟩)] encU (EntB w) (fun xs => xs = []) (fun pre => pre <+: ([] : List Ent)) 0 w := by
  intro l J Jx W hwW hnc hJ hJx hY hJ0
  have h1 : 1 ≤ n := by omega
  refine callsIn_of_wp_marks Try.func57 rfl trivial ?_ rfl
  simp only [Try.ntmps57, List.size_toArray, List.length_cons, List.length_nil, Nat.reduceAdd, Nat.reduceSub, Array.replicate_succ, Array.replicate_zero, List.push_toArray, List.append_toArray, List.nil_append, List.cons_append]
  obtain ⟨W1, hW1⟩ : ∃ X : World, X = W.alloc (.cells #[.func (.yield l) #[] #[]] 51) := ⟨_, rfl⟩
  have hb1 : Below W.heap.size W W1 := by rw [hW1]; exact al (Below.refl _ _) _
  have hxW : W.cell? ⟨gx, 0, none⟩ = some x := (hwW.cell (World.block_lt_of_cell? w _ hx)).trans hx
  have hsW := rangeAt_below hs hwW
  have hq0 := hsW 0 _ rfl
  have hq1 := hsW 1 _ rfl
  have hgl : gx < W.heap.size := World.block_lt_of_cell? W _ hxW
  have hgl2 : gs < W.heap.size := World.block_lt_of_cell? W _ hq0
  have hwW1 : Below w.heap.size w W1 := below_next hwW hb1
  have HFR : Hid _ := from0_t x pa cap hpa s1 s2 W1 (hpg.below hwW1)
  have HYB : Hid (W1.heap[W.heap.size]? = some (.cells #[.func (.yield l) #[] #[]] 51 (0, 0))) := (show W1.heap[W.heap.size]? = some (.cells #[.func (.yield l) #[] #[]] 51 (0, 0)) by rw [hW1]; exact heap_alloc_new W _)
  have HB1 : Hid (Below W.heap.size W W1) := hb1
  have HWW : Hid (Below w.heap.size w W) := hwW
  have HNC : Hid _ := hnc
  have HY : Hid _ := hY
  subst hxg
  clear hsW hwW1 hb1 hnc hY hpg hs hx
  gi_wp2
  refine ⟨trivial, ?_⟩
  rw [← hW1]
  refine (callsIn_wide.2 HFR.out).mono ?_
  rintro e W2 ⟨rfl, hb2⟩
  have HB2 : Hid (Below W.heap.size W W2) := below_next HB1.out hb2
  have HYB2 : Hid (W2.heap[W.heap.size]? = some (.cells #[.func (.yield l) #[] #[]] 51 (0, 0))) := (hb2.block _ (Array.getElem?_eq_some_iff.1 HYB.out).1).trans HYB.out
  have HCL : Hid _ := clone0_t pa cap hpa W2
  clear hb2 hW1
  gi_wp2
  refine ⟨trivial, ?_⟩
  refine (callsIn_wide.2 HCL.out).mono ?_
  rintro e W3 ⟨pa3, c3, rfl, hb3⟩
  have HB3 : Hid (Below W.heap.size W W3) := below_next HB2.out hb3
  have HYB3 : Hid (W3.heap[W.heap.size]? = some (.cells #[.func (.yield l) #[] #[]] 51 (0, 0))) := (hb3.block _ (Array.getElem?_eq_some_iff.1 HYB2.out).1).trans HYB2.out
  have HRI : Hid (Calls Try.prog 50 #[.slice pa3 0 c3, .int .i64 0] W3 fun e w' => e = .returned (.func (.func 63) #[] #[.pointer (some ⟨W3.heap.size, 0, none⟩), .pointer (some ⟨W3.heap.size + 1, 0, none⟩)]) ∧ w' = (W3.alloc (.cells #[.slice pa3 0 c3] tPs)).alloc (.cells #[.int .i64 0] 3)) := rising_t pa3 0 c3 0 W3
  clear hb3
  gi_wp2
  refine ⟨trivial, ?_⟩
  refine (callsIn_wide.2 HRI.out).mono ?_
  rintro e W4 ⟨rfl, hW4⟩
  have hb4 : Below W3.heap.size W3 W4 := by rw [hW4]; exact al (al (Below.refl _ _) _) _
  have hz4 : W4.heap.size = W3.heap.size + 2 := by rw [hW4]; simp
  have hz2 := two_new W3 (.cells #[.slice pa3 0 c3] tPs) (.cells #[.int .i64 0] 3)
  rw [← hW4] at hz2
  have hB4 : Below W.heap.size W W4 := below_next HB3.out hb4
  have hY4 : W4.heap[W.heap.size]? = some (.cells #[.func (.yield l) #[] #[]] 51 (0, 0)) := (hb4.block _ (Array.getElem?_eq_some_iff.1 HYB3.out).1).trans HYB3.out
  obtain ⟨Z, hZ⟩ : ∃ Z : BlkS, Z = fun k => EntB w k ∨ (W.heap.size ≤ k ∧ k < W4.heap.size) := ⟨_, rfl⟩
  have hJ4 : J [] Z W4 := by rw [hZ]; exact hJ.grow [] (EntB w) W W4 none hJ0 ⟨hB4.os, hB4.tape, hB4.output, hB4.size, fun k hk _ => hB4.block k hk⟩ (fun r e => by cases e)
  have hZlt : ∀ k, Z k → k < W4.heap.size := fun k hk => by
    rw [hZ] at hk
    rcases hk with ⟨h9, -⟩ | ⟨-, h9⟩
    · have := HWW.out.size; have := hB4.size; omega
    · exact h9
  have hZe : ∀ k cur fr, W4.heap[k]? = some (.cells cur tEn fr) → Z k := fun k cur fr hk => by
    have hlt := (Array.getElem?_eq_some_iff.1 hk).1
    rw [hZ]
    by_cases h9 : W.heap.size ≤ k
    · exact .inr ⟨h9, hlt⟩
    · have hkW : W.heap[k]? = some (.cells cur tEn fr) := (hB4.block k (by omega)).symm.trans hk
      by_cases h8 : w.heap.size ≤ k
      · obtain ⟨o9, h7, h6⟩ := HNC.out k h8 (by omega)
        rw [hkW] at h7; cases h7; cases h6
      · exact .inl ⟨by omega, cur, fr, (HWW.out.block k (by omega)).symm.trans hkW⟩
  have hWs : W.heap.size ≤ W3.heap.size := HB3.out.size
  have hZ1 : Z W3.heap.size := by rw [hZ]; exact .inr ⟨hWs, by omega⟩
  have hZ2 : Z (W3.heap.size + 1) := by rw [hZ]; exact .inr ⟨by omega, by omega⟩
  have hZy : Z W.heap.size := by rw [hZ]; exact .inr ⟨Nat.le_refl _, (Array.getElem?_eq_some_iff.1 hY4).1⟩
  have hiP : 0 ≤ (([] : List (List Ent)).getD 0 []).length := Nat.zero_le _
  have HSQ : Hid (SeqStopsK Fence.wide (n - 1) Try.prog 63 #[.pointer (some ⟨W3.heap.size, 0, none⟩), .pointer (some ⟨W3.heap.size + 1, 0, none⟩)] (fun x : Ent => #[ea x]) (fun V V' => V.heap.size ≤ V'.heap.size ∧ KeepZ Z V V') (fun ys => ys = []) (fun pre => pre <+: ([] : List Ent)) 0 W4) := fun l' J' Jx' U hU hJ' hJx' hY' hJ0' =>
    rising_in Fence.wide (n - 1) trivial rfl (by omega) l' W3.heap.size (W3.heap.size + 1) (fun V V' => V.heap.size ≤ V'.heap.size ∧ KeepZ Z V V') (fun V => ⟨Nat.le_refl _, fun _ _ => rfl⟩) (fun h k => ⟨Nat.le_trans h.1 k.1, h.2.trans k.2⟩) (fun h => h.1) [] 0 pa3 0 c3 rfl (by decide) (fun q hq => by cases hq) hiP J' Jx' hY' U (fun V o hV => ⟨by simp, fun k hk => Below.heap_alloc V o k (by have := hZlt k hk; have := hU.size; omega)⟩) hJ' (fun _ => none) (fun _ => 0) (fun q hq => by cases hq) (fun u hu => by
      have hku : KeepZ Z W4 u := fun k hk => (hu.2 k hk).trans (hU.block k (hZlt k hk))
      refine ⟨fun j hj => absurd hj (Nat.not_lt_zero _), ?_, ?_⟩
      · exact cell_heap (by rw [cell_of_row _ _ _ _ _ _ hz2.1]; rfl) (hku _ hZ1)
      · exact cell_heap (by rw [cell_of_row _ _ _ _ _ _ hz2.2]; rfl) (hku _ hZ2)) hJ0'
  have hW4s : W.heap.size ≤ W4.heap.size := hB4.size
  clear hW4 hz2 hiP
  gi_wp2
  refine wpIn_rangeFunc_ownH rfl h1 (gf := 63) (lb := #[.pointer (some ⟨W3.heap.size, 0, none⟩), .pointer (some ⟨W3.heap.size + 1, 0, none⟩)]) rfl trivial (enters_of Try.func63 (by kernel_rfl) rfl)
    HSQ.out (fun h k => ⟨Nat.le_trans h.1 k.1, h.2.trans k.2⟩) (fun V l o o' hl _ _ _ => ⟨by simp, keepZ_put V o' (fun hz => by have := hZlt l hz; omega)⟩) (Below.refl _ _) (fun _ => rfl)
    (fun pre V => J pre Z V ∧ V.heap[W.heap.size]? = some (.cells #[.func (.yield l) #[] #[]] 51 (0, 0)) ∧ W4.heap.size ≤ V.heap.size)
    (fun c pre V => c = .ret ∧ Jx pre Z V)
    (fun s A B row hs hg hr => ⟨hJ.less _ _ _ _ (hJ.grow s Z A B row hs.1 hg (fun r e => ⟨by have := (hr r e).1; omega, (hr r e).2⟩)) (fun k hk => .inl hk), heap_kept hs.2.1 hg (fun r e => (hr r e).2), Nat.le_trans hs.2.2 hg.size⟩)
    (fun c s A B row hs hg hr => ⟨hs.1, hJx.less _ _ _ _ (hJx.grow s Z A B row hs.2 hg (fun r e => ⟨by have := (hr r e).1; omega, (hr r e).2⟩)) (fun k hk => .inl hk)⟩)
    ⟨hJ4, hY4, Nat.le_refl _⟩
    (fun x a' V => True)
    (fun x a' s A B row hs hg hr => trivial)
    ?assign ?body ?done ?stop
  case assign =>
    rintro l' pre ⟨⟨x1, x2⟩, xn⟩ V K ⟨hj, hyb, hvs⟩ hK
    gi_wp2
    exact hK _ _ ((KeepsOthers.alloc _ _).from _) ⟨by simp, fun k hk => Below.heap_alloc V _ k (by have := hZlt k hk; omega)⟩ ⟨hJ.new _ hj, (Below.heap_alloc V _ _ (Array.getElem?_eq_some_iff.1 hyb).1).trans hyb, by simp; omega⟩ trivial
  case body =>
    rintro l' pre x9 a' V hl hlr - - hlt
    exact absurd hlt (Nat.not_lt_zero _)
  case done =>
    rintro D ys V hD rfl ⟨hj, -, -⟩ hK
    gi_wp2
    refine ⟨by simp, .inl ⟨_, _, rfl, run_takeDeferred hK, ?_⟩⟩
    exact ⟨_, results_none rfl _ _ _, ⟨_, rfl⟩, .inl ⟨_, Z, rfl, hJ.turn _ hj (by omega) hK rfl⟩⟩
  case stop =>
    rintro D c pre V hD hpre ⟨rfl, hjx⟩ hK
    gi_wp2
    refine ⟨by simp, .inl ⟨_, _, rfl, run_takeDeferred hK, ?_⟩⟩
    exact ⟨_, results_none rfl _ _ _, ⟨_, rfl⟩, .inr ⟨_, Z, hpre, hJx.turn _ hjx (by omega) hK rfl⟩⟩
end
end Go.Proofs.Ytibolgpaolnheac
namespace Go.Proofs.Ytibolgpaolnheac
set_option linter.unusedVariables false
set_option linter.unusedSimpArgs false
open Go.RowKit Go.Shelf
variable {P : Program} {ops : Array Oper} {Q : Exit → Act → World → Prop} {md : Region.Mode} {S : World → Prop} {l n : Nat}
theorem callsIn_round {f : FuncId} {args : Array Value} {w : World} {R : Ending → World → Prop} : CallsIn (Fence.wide.inRound l) n P f args w R ↔ Calls P f args w R := callsIn_wide (n := n)
theorem rowsIn_round {r : String} {args : Array Value} {w : World} {R : Value → World → Prop} (h : Rows P r args w R) : RowsIn (Fence.wide.inRound l) n P r args w R := fun c cs _ => by
  obtain ⟨v, w', r, s⟩ := h c cs
  exact ⟨v, w', r, (stepsIn_wide (P := P)).2 s⟩
theorem opIn_of_op {o : Oper} {a : Act} {w : World} {K : Act → World → Prop} (hdef : ∀ c, o.op ≠ .defer c) (h : o.wp P a w K Q) : o.wpIn (Fence.wide.inRound l) n P a w K Q := by
  refine ⟨fun _ _ => trivial, ?_⟩
  have e : Oper.semAt (some l) a.eval o = execOp a.eval o := Oper.semAt_eq _ _ _ hdef
  show o.uponIn _ n P a K Q ((Oper.semAt (some l) a.eval o).run P w)
  rw [e]
  unfold Oper.wp at h
  generalize (execOp a.eval o).run P w = r at *
  cases r with
  | ok x w' => cases x <;> simp only [Oper.upon, Oper.uponIn] at h ⊢ <;> first | exact h | exact ⟨fun h9 => (by cases h9), callsIn_round.2 h⟩ | exact ⟨fun h9 => (by cases h9), rowsIn_round h⟩ | exact h.elim
  | halt x w' => cases x <;> simp only [Oper.upon, Oper.uponIn] at h ⊢ <;> first | exact h | exact h.elim
def noDefer (ops : Array Oper) : Bool := ops.toList.all fun o => match o.op with | .defer _ => false | _ => true
theorem noDefer_at (h : noDefer ops = true) {i : Nat} {o : Oper} (hi : ops[i]? = some o) : ∀ c, o.op ≠ .defer c := fun c e => by
  have h1 := List.all_eq_true.1 h o (Array.mem_toList_iff.2 (Array.mem_of_getElem? hi))
  rw [e] at h1
  cases h1
theorem anyIn_of_any (hops : noDefer ops = true) (hlo : ¬ LetsOut Q) : ∀ (fuel : Nat) (listed : Array Bool) (a : Act) (w : World), wpAny P md ops Q fuel listed a w → wpAnyIn (Fence.wide.inRound l) n P md ops Q fuel listed a w
  | 0, _, _, _, h => h
  | fuel + 1, listed, a, w, h => by
    refine ⟨h.1, fun i hi => ?_⟩
    have h2 := h.2 i hi
    unfold wpOp at h2
    unfold wpOpIn
    cases ho : ops[i]? with
    | none => rw [ho] at h2; exact anyIn_of_any hops hlo fuel _ _ _ h2
    | some o =>
      rw [ho] at h2
      simp only at h2 ⊢
      split
      · rename_i hw
        rw [if_pos hw] at h2
        rcases h2 with h2 | ⟨-, h2⟩
        · exact Oper.wpIn_mono (fun a w h9 => anyIn_of_any hops hlo fuel _ a w h9) (opIn_of_op (noDefer_at hops ho) h2)
        · exact absurd h2 hlo
      · rename_i hw
        rw [if_neg hw] at h2
        exact ⟨fun _ _ => trivial, anyIn_of_any hops hlo fuel _ _ _ h2⟩
theorem wpIn_region_held_drew {id : Nat} {a : Act} {w : World} (hm : P.follows .mixedOrders = true) (hS : S w.drew) (hops : noDefer ops = true) (hlo : ¬ LetsOut Q)
    (h : S w.drew → wpAnyH P .any ops Q S ops.size (Array.replicate ops.size false) a w.drew) : (Code.region id ops true).wpIn (Fence.wide.inRound l) n P Q a w :=
  wpIn_region_any hm (anyIn_of_any hops hlo _ _ _ _ (wpAny_of_held _ _ _ _ (h hS)))
end Go.Proofs.Ytibolgpaolnheac
