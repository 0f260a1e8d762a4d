import Derived.Test.YtnhjkipaclchiabQZ
import Derived.Test.YtnhjkipaclchiabQO2
namespace Go.Proofs.Ytnhjkipaclchiab
set_option linter.unusedVariables false
set_option linter.unusedSimpArgs false
open Go.RowKit Go.Shelf
attribute [local go_sem] Oper.semAt_some
section
set_option maxHeartbeats 6400000
set_option maxRecDepth 100000
theorem clone0_t (pa : Option Addr) (cap : Nat) (hpa : (pa = none ∧ cap = 0) ∨ (∃ b o, pa = some ⟨b, o, none⟩)) (w : World) :
    Calls Try.prog 44 #[.slice pa 0 cap] w fun e w' => ∃ pa' c', e = .returned (.slice pa' 0 c') ∧ Below w.heap.size w w' := by
  have q22 : ∀ (w : World) (a : Option Addr) (n c n' c' : Nat), (binOp .eql tPs (.slice a n c) (.slice none n' c')).run Try.prog w = .ok (.bool a.isNone) w := fun w a n c n' c' => Lib.run_eql_slice_nil w _ _ a n c n' c' Try.underlying24
  rcases hpa with ⟨rfl, rfl⟩ | ⟨b, o, rfl⟩
  · go_enter Try.func44, Try.ntmps44
    go_wp2
    go_ret
    exact ⟨_, _, rfl, Below.refl _ _⟩
  · go_enter Try.func44, Try.ntmps44
    go_wp2
    go_ret
    exact ⟨_, _, rfl, al (Below.refl _ _) _⟩
/-- Up's closure: nothing, of an index that has no pages -/
theorem up_stops0 (n : Nat) (hn3 : 4 ≤ n) (gx gs : Nat) (x : Value) (pa : Option Addr) (cap : Nat) (hpa : (pa = none ∧ cap = 0) ∨ (∃ b o, pa = some ⟨b, o, none⟩)) (hx1 : x.oneCell' = true) (g : Option Addr) (hxg : x = .pointer g) (s1 s2 : Nat) (w : World)
    (hx : w.cell? ⟨gx, 0, none⟩ = some x) (hs : w.rangeAt gs 0 (sc (s1, s2))) (hpg : PgV w x pa 0 cap) :
    SeqG Fence.wide n Try.prog 41 #[.pointer (some ⟨gx, 0, none⟩), .pointer (some ⟨gs, 0, none⟩)] encU (EntB w) (fun xs => xs = []) (fun pre => pre <+: ([] : List Ent)) 0 w := by
  intro l J Jx W hwW hnc hJ hJx hY hJ0
  have h1 : 1 ≤ n := by omega
  refine callsIn_of_wp_marks Try.func41 rfl trivial ?_ rfl
  simp only [Try.ntmps41, List.size_toArray, List.length_cons, List.length_nil, Nat.reduceAdd, Nat.reduceSub, Array.replicate_succ, Array.replicate_zero, List.push_toArray, List.append_toArray, List.nil_append, List.cons_append]
  obtain ⟨W1, hW1⟩ : ∃ X : World, X = W.alloc (.cells #[.func (.yield l) #[] #[]] 53) := ⟨_, rfl⟩
  have hb1 : Below W.heap.size W W1 := by rw [hW1]; exact al (Below.refl _ _) _
  have hxW : W.cell? ⟨gx, 0, none⟩ = some x := (hwW.cell (World.block_lt_of_cell? w _ hx)).trans hx
  have hsW := rangeAt_below hs hwW
  have hq0 := hsW 0 _ rfl
  have hq1 := hsW 1 _ rfl
  have hgl : gx < W.heap.size := World.block_lt_of_cell? W _ hxW
  have hgl2 : gs < W.heap.size := World.block_lt_of_cell? W _ hq0
  have hwW1 : Below w.heap.size w W1 := below_next hwW hb1
  have HFR : Hid _ := from0_t x pa cap hpa s1 s2 W1 (hpg.below hwW1)
  have HYB : Hid (W1.heap[W.heap.size]? = some (.cells #[.func (.yield l) #[] #[]] 53 (0, 0))) := (show W1.heap[W.heap.size]? = some (.cells #[.func (.yield l) #[] #[]] 53 (0, 0)) by rw [hW1]; exact heap_alloc_new W _)
  have HB1 : Hid (Below W.heap.size W W1) := hb1
  have HWW : Hid (Below w.heap.size w W) := hwW
  have HNC : Hid _ := hnc
  have HY : Hid _ := hY
  subst hxg
  clear hsW hwW1 hb1 hnc hY hpg hs hx
  gi_wp2
  refine ⟨trivial, ?_⟩
  rw [← hW1]
  refine (callsIn_wide.2 HFR.out).mono ?_
  rintro e W2 ⟨rfl, hb2⟩
  have HB2 : Hid (Below W.heap.size W W2) := below_next HB1.out hb2
  have HYB2 : Hid (W2.heap[W.heap.size]? = some (.cells #[.func (.yield l) #[] #[]] 53 (0, 0))) := (hb2.block _ (Array.getElem?_eq_some_iff.1 HYB.out).1).trans HYB.out
  have HCL : Hid _ := clone0_t pa cap hpa W2
  clear hb2 hW1
  gi_wp2
  refine ⟨trivial, ?_⟩
  refine (callsIn_wide.2 HCL.out).mono ?_
  rintro e W3 ⟨pa3, c3, rfl, hb3⟩
  have HB3 : Hid (Below W.heap.size W W3) := below_next HB2.out hb3
  have HYB3 : Hid (W3.heap[W.heap.size]? = some (.cells #[.func (.yield l) #[] #[]] 53 (0, 0))) := (hb3.block _ (Array.getElem?_eq_some_iff.1 HYB2.out).1).trans HYB2.out
  have HRI : Hid (Calls Try.prog 43 #[.slice pa3 0 c3, .int .i64 0] W3 fun e w' => e = .returned (.func (.func 62) #[] #[.pointer (some ⟨W3.heap.size, 0, none⟩), .pointer (some ⟨W3.heap.size + 1, 0, none⟩)]) ∧ w' = (W3.alloc (.cells #[.slice pa3 0 c3] tPs)).alloc (.cells #[.int .i64 0] 3)) := rising_t pa3 0 c3 0 W3
  clear hb3
  gi_wp2
  refine ⟨trivial, ?_⟩
  refine (callsIn_wide.2 HRI.out).mono ?_
  rintro e W4 ⟨rfl, hW4⟩
  have hb4 : Below W3.heap.size W3 W4 := by rw [hW4]; exact al (al (Below.refl _ _) _) _
  have hz4 : W4.heap.size = W3.heap.size + 2 := by rw [hW4]; simp
  have hz2 := two_new W3 (.cells #[.slice pa3 0 c3] tPs) (.cells #[.int .i64 0] 3)
  rw [← hW4] at hz2
  have hB4 : Below W.heap.size W W4 := below_next HB3.out hb4
  have hY4 : W4.heap[W.heap.size]? = some (.cells #[.func (.yield l) #[] #[]] 53 (0, 0)) := (hb4.block _ (Array.getElem?_eq_some_iff.1 HYB3.out).1).trans HYB3.out
  obtain ⟨Z, hZ⟩ : ∃ Z : BlkS, Z = fun k => EntB w k ∨ (W.heap.size ≤ k ∧ k < W4.heap.size) := ⟨_, rfl⟩
  have hJ4 : J [] Z W4 := by rw [hZ]; exact hJ.grow [] (EntB w) W W4 none hJ0 ⟨hB4.os, hB4.tape, hB4.output, hB4.size, fun k hk _ => hB4.block k hk⟩ (fun r e => by cases e)
  have hZlt : ∀ k, Z k → k < W4.heap.size := fun k hk => by
    rw [hZ] at hk
    rcases hk with ⟨h9, -⟩ | ⟨-, h9⟩
    · have := HWW.out.size; have := hB4.size; omega
    · exact h9
  have hZe : ∀ k cur fr, W4.heap[k]? = some (.cells cur tEn fr) → Z k := fun k cur fr hk => by
    have hlt := (Array.getElem?_eq_some_iff.1 hk).1
    rw [hZ]
    by_cases h9 : W.heap.size ≤ k
    · exact .inr ⟨h9, hlt⟩
    · have hkW : W.heap[k]? = some (.cells cur tEn fr) := (hB4.block k (by omega)).symm.trans hk
      by_cases h8 : w.heap.size ≤ k
      · obtain ⟨o9, h7, h6⟩ := HNC.out k h8 (by omega)
        rw [hkW] at h7; cases h7; cases h6
      · exact .inl ⟨by omega, cur, fr, (HWW.out.block k (by omega)).symm.trans hkW⟩
  have hWs : W.heap.size ≤ W3.heap.size := HB3.out.size
  have hZ1 : Z W3.heap.size := by rw [hZ]; exact .inr ⟨hWs, by omega⟩
  have hZ2 : Z (W3.heap.size + 1) := by rw [hZ]; exact .inr ⟨by omega, by omega⟩
  have hZy : Z W.heap.size := by rw [hZ]; exact .inr ⟨Nat.le_refl _, (Array.getElem?_eq_some_iff.1 hY4).1⟩
  have hiP : 0 ≤ (([] : List (List Ent)).getD 0 []).length := Nat.zero_le _
  have HSQ : Hid (SeqStopsK Fence.wide (n - 1) Try.prog 62 #[.pointer (some ⟨W3.heap.size, 0, none⟩), .pointer (some ⟨W3.heap.size + 1, 0, none⟩)] (fun x : Ent => #[ea x]) (fun V V' => V.heap.size ≤ V'.heap.size ∧ KeepZ Z V V') (fun ys => ys = []) (fun pre => pre <+: ([] : List Ent)) 0 W4) := fun l' J' Jx' U hU hJ' hJx' hY' hJ0' =>
    rising_in Fence.wide (n - 1) trivial rfl (by omega) l' W3.heap.size (W3.heap.size + 1) (fun V V' => V.heap.size ≤ V'.heap.size ∧ KeepZ Z V V') (fun V => ⟨Nat.le_refl _, fun _ _ => rfl⟩) (fun h k => ⟨Nat.le_trans h.1 k.1, h.2.trans k.2⟩) (fun h => h.1) [] 0 pa3 0 c3 rfl (by decide) (fun q hq => by cases hq) hiP J' Jx' hY' U (fun V o hV => ⟨by simp, fun k hk => Below.heap_alloc V o k (by have := hZlt k hk; have := hU.size; omega)⟩) hJ' (fun _ => none) (fun _ => 0) (fun q hq => by cases hq) (fun u hu => by
      have hku : KeepZ Z W4 u := fun k hk => (hu.2 k hk).trans (hU.block k (hZlt k hk))
      refine ⟨fun j hj => absurd hj (Nat.not_lt_zero _), ?_, ?_⟩
      · exact cell_heap (by rw [cell_of_row _ _ _ _ _ _ hz2.1]; rfl) (hku _ hZ1)
      · exact cell_heap (by rw [cell_of_row _ _ _ _ _ _ hz2.2]; rfl) (hku _ hZ2)) hJ0'
  have hW4s : W.heap.size ≤ W4.heap.size := hB4.size
  clear hW4 hz2 hiP
  gi_wp2
  refine wpIn_rangeFunc_ownH rfl h1 (gf := 62) (lb := #[.pointer (some ⟨W3.heap.size, 0, none⟩), .pointer (some ⟨W3.heap.size + 1, 0, none⟩)]) rfl trivial (enters_of Try.func62 (by kernel_rfl) rfl)
    HSQ.out (fun h k => ⟨Nat.le_trans h.1 k.1, h.2.trans k.2⟩) (fun V l o o' hl _ _ _ => ⟨by simp, keepZ_put V o' (fun hz => by have := hZlt l hz; omega)⟩) (Below.refl _ _) (fun _ => rfl)
    (fun pre V => J pre Z V ∧ V.heap[W.heap.size]? = some (.cells #[.func (.yield l) #[] #[]] 53 (0, 0)) ∧ W4.heap.size ≤ V.heap.size)
    (fun c pre V => c = .ret ∧ Jx pre Z V)
    (fun s A B row hs hg hr => ⟨hJ.less _ _ _ _ (hJ.grow s Z A B row hs.1 hg (fun r e => ⟨by have := (hr r e).1; omega, (hr r e).2⟩)) (fun k hk => .inl hk), heap_kept hs.2.1 hg (fun r e => (hr r e).2), Nat.le_trans hs.2.2 hg.size⟩)
    (fun c s A B row hs hg hr => ⟨hs.1, hJx.less _ _ _ _ (hJx.grow s Z A B row hs.2 hg (fun r e => ⟨by have := (hr r e).1; omega, (hr r e).2⟩)) (fun k hk => .inl hk)⟩)
    ⟨hJ4, hY4, Nat.le_refl _⟩
    (fun x a' V => True)
    (fun x a' s A B row hs hg hr => trivial)
    ?assign ?body ?done ?stop
  case assign =>
    rintro l' pre ⟨⟨x1, x2⟩, xn⟩ V K ⟨hj, hyb, hvs⟩ hK
    gi_wp2
    exact hK _ _ ((KeepsOthers.alloc _ _).from _) ⟨by simp, fun k hk => Below.heap_alloc V _ k (by have := hZlt k hk; omega)⟩ ⟨hJ.new _ hj, (Below.heap_alloc V _ _ (Array.getElem?_eq_some_iff.1 hyb).1).trans hyb, by simp; omega⟩ trivial
  case body =>
    rintro l' pre x9 a' V hl hlr - - hlt
    exact absurd hlt (Nat.not_lt_zero _)
  case done =>
    rintro D ys V hD rfl ⟨hj, -, -⟩ hK
    gi_wp2
    refine ⟨by simp, .inl ⟨_, _, rfl, run_takeDeferred hK, ?_⟩⟩
    exact ⟨_, results_none rfl _ _ _, ⟨_, rfl⟩, .inl ⟨_, Z, rfl, hJ.turn _ hj (by omega) hK rfl⟩⟩
  case stop =>
    rintro D c pre V hD hpre ⟨rfl, hjx⟩ hK
    gi_wp2
    refine ⟨by simp, .inl ⟨_, _, rfl, run_takeDeferred hK, ?_⟩⟩
    exact ⟨_, results_none rfl _ _ _, ⟨_, rfl⟩, .inr ⟨_, Z, hpre, hJx.turn _ hjx (by omega) hK rfl⟩⟩
end
end Go.Proofs.Ytnhjkipaclchiab
