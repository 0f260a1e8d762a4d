import Derived.Test.YtnhjkipaclchiabQDn
namespace Go.Proofs.Ytnhjkipaclchiab
set_option linter.unusedVariables false
set_option linter.unusedSimpArgs false
open Go.RowKit Go.Shelf
attribute [local go_sem] Oper.semAt_some
section
set_option maxHeartbeats 6400000
set_option maxRecDepth 100000
/-- Down's closure: nothing, of an index that has no pages -/
theorem down_G0 (n : Nat) (hn3 : 10 ≤ n) (gx gs : Nat) (x : Value) (pa : Option Addr) (cap : Nat) (hpa : (pa = none ∧ cap = 0) ∨ (∃ b o, pa = some ⟨b, o, none⟩)) (hx1 : x.oneCell' = true) (g : Option Addr) (hxg : x = .pointer g) (s1 s2 : Nat) (w : World)
    (hx : w.cell? ⟨gx, 0, none⟩ = some x) (hs : w.rangeAt gs 0 (sc (s1, s2))) (hpg : PgV w x pa 0 cap) :
    SeqG Fence.wide n Try.prog 45 #[.pointer (some ⟨gx, 0, none⟩), .pointer (some ⟨gs, 0, none⟩)] encU (EntB w) (fun xs => xs = []) (fun pre => pre <+: ([] : List Ent)) 0 w := by
  intro l J Jx W hwW hnc hJ hJx hY hJ0
  have h1 : 1 ≤ n := by omega
  refine callsIn_of_wp_marks Try.func45 rfl trivial ?_ rfl
  simp only [Try.ntmps45, List.size_toArray, List.length_cons, List.length_nil, Nat.reduceAdd, Nat.reduceSub, Array.replicate_succ, Array.replicate_zero, List.push_toArray, List.append_toArray, List.nil_append, List.cons_append]
  obtain ⟨W1, hW1⟩ : ∃ X : World, X = W.alloc (.cells #[.func (.yield l) #[] #[]] 53) := ⟨_, rfl⟩
  have hb1 : Below W.heap.size W W1 := by rw [hW1]; exact al (Below.refl _ _) _
  have hxW : W.cell? ⟨gx, 0, none⟩ = some x := (hwW.cell (World.block_lt_of_cell? w _ hx)).trans hx
  have hsW := rangeAt_below hs hwW
  have hq0 := hsW 0 _ rfl
  have hq1 := hsW 1 _ rfl
  have hgl : gx < W.heap.size := World.block_lt_of_cell? W _ hxW
  have hgl2 : gs < W.heap.size := World.block_lt_of_cell? W _ hq0
  have hwW1 : Below w.heap.size w W1 := below_next hwW hb1
  have HFR : Hid _ := upTo0_t x pa cap hpa s1 s2 W1 (hpg.below hwW1)
  have HYB : Hid (W1.heap[W.heap.size]? = some (.cells #[.func (.yield l) #[] #[]] 53 (0, 0))) := (show W1.heap[W.heap.size]? = some (.cells #[.func (.yield l) #[] #[]] 53 (0, 0)) by rw [hW1]; exact heap_alloc_new W _)
  have HB1 : Hid (Below W.heap.size W W1) := hb1
  have HWW : Hid (Below w.heap.size w W) := hwW
  have HNC : Hid _ := hnc
  have HY : Hid _ := hY
  subst hxg
  clear hsW hwW1 hb1 hnc hY hpg hs hx
  gi_wp2
  refine ⟨trivial, ?_⟩
  rw [← hW1]
  refine (callsIn_wide.2 HFR.out).mono ?_
  rintro e W2 ⟨rfl, hb2⟩
  have HB2 : Hid (Below W.heap.size W W2) := below_next HB1.out hb2
  have HYB2 : Hid (W2.heap[W.heap.size]? = some (.cells #[.func (.yield l) #[] #[]] 53 (0, 0))) := (hb2.block _ (Array.getElem?_eq_some_iff.1 HYB.out).1).trans HYB.out
  have HCL : Hid _ := clone0_t pa cap hpa W2
  clear hb2 hW1
  gi_wp2
  refine ⟨trivial, ?_⟩
  refine (callsIn_wide.2 HCL.out).mono ?_
  rintro e W3 ⟨pa3, c3, rfl, hb3⟩
  have HB3 : Hid (Below W.heap.size W W3) := below_next HB2.out hb3
  have HYB3 : Hid (W3.heap[W.heap.size]? = some (.cells #[.func (.yield l) #[] #[]] 53 (0, 0))) := (hb3.block _ (Array.getElem?_eq_some_iff.1 HYB2.out).1).trans HYB2.out
  have HRI : Hid (Calls Try.prog 47 #[.slice pa3 0 c3, .int .i64 0] W3 fun e w' => e = .returned (.func (.func 63) #[] #[.pointer (some ⟨W3.heap.size, 0, none⟩), .pointer (some ⟨W3.heap.size + 1, 0, none⟩)]) ∧ w' = (W3.alloc (.cells #[.slice pa3 0 c3] tPs)).alloc (.cells #[.int .i64 0] 3)) := falling_t pa3 0 c3 0 W3
  clear hb3
  gi_wp2
  refine ⟨trivial, ?_⟩
  refine (callsIn_wide.2 HRI.out).mono ?_
  rintro e W4 ⟨rfl, hW4⟩
  have hb4 : Below W3.heap.size W3 W4 := by rw [hW4]; exact al (al (Below.refl _ _) _) _
  have hz4 : W4.heap.size = W3.heap.size + 2 := by rw [hW4]; simp
  have hz2 := two_new W3 (.cells #[.slice pa3 0 c3] tPs) (.cells #[.int .i64 0] 3)
  rw [← hW4] at hz2
  have hB4 : Below W.heap.size W W4 := below_next HB3.out hb4
  have hY4 : W4.heap[W.heap.size]? = some (.cells #[.func (.yield l) #[] #[]] 53 (0, 0)) := (hb4.block _ (Array.getElem?_eq_some_iff.1 HYB3.out).1).trans HYB3.out
  obtain ⟨Z, hZ⟩ : ∃ Z : BlkS, Z = fun k => EntB w k ∨ (W.heap.size ≤ k ∧ k < W4.heap.size) := ⟨_, rfl⟩
  have hJ4 : J [] Z W4 := by rw [hZ]; exact hJ.grow [] (EntB w) W W4 none hJ0 ⟨hB4.os, hB4.tape, hB4.output, hB4.size, fun k hk _ => hB4.block k hk⟩ (fun r e => by cases e)
  have hZlt : ∀ k, Z k → k < W4.heap.size := fun k hk => by
    rw [hZ] at hk
    rcases hk with ⟨h9, -⟩ | ⟨-, h9⟩
    · have := HWW.out.size; have := hB4.size; omega
    · exact h9
  have hZe : ∀ k cur fr, W4.heap[k]? = some (.cells cur tEn fr) → Z k := fun k cur fr hk => by
    have hlt := (Array.getElem?_eq_some_iff.1 hk).1
    rw [hZ]
    by_cases h9 : W.heap.size ≤ k
    · exact .inr ⟨h9, hlt⟩
    · have hkW : W.heap[k]? = some (.cells cur tEn fr) := (hB4.block k (by omega)).symm.trans hk
      by_cases h8 : w.heap.size ≤ k
      · obtain ⟨o9, h7, h6⟩ := HNC.out k h8 (by omega)
        rw [hkW] at h7; cases h7; cases h6
      · exact .inl ⟨by omega, cur, fr, (HWW.out.block k (by omega)).symm.trans hkW⟩
  have hWs : W.heap.size ≤ W3.heap.size := HB3.out.size
  have hZ1 : Z W3.heap.size := by rw [hZ]; exact .inr ⟨hWs, by omega⟩
  have hZ2 : Z (W3.heap.size + 1) := by rw [hZ]; exact .inr ⟨by omega, by omega⟩
  have hZy : Z W.heap.size := by rw [hZ]; exact .inr ⟨Nat.le_refl _, (Array.getElem?_eq_some_iff.1 hY4).1⟩
  have HSQ : Hid _ := falling_G (n - 1) (by omega) W3.heap.size (W3.heap.size + 1) [] 0 0 c3 pa3 (fun _ => none) (fun _ => 0) Z W4 rfl (by decide) (fun q hq => by cases hq) (fun q hq => by cases hq) (Nat.zero_le _) 0 (fun k hk => absurd hk (Nat.not_lt_zero _)) hZlt (fun u hu => ⟨fun j hj => absurd hj (Nat.not_lt_zero _), cell_heap (by rw [cell_of_row _ _ _ _ _ _ hz2.1]; rfl) (hu _ hZ1), cell_heap (by rw [cell_of_row _ _ _ _ _ _ hz2.2]; rfl) (hu _ hZ2)⟩)
  have hW4s : W.heap.size ≤ W4.heap.size := hB4.size
  clear hW4 hz2
  gi_wp2
  refine wpIn_rangeFunc_G rfl h1 (gf := 63) (lb := #[.pointer (some ⟨W3.heap.size, 0, none⟩), .pointer (some ⟨W3.heap.size + 1, 0, none⟩)]) rfl trivial (enters_of Try.func63 (by kernel_rfl) rfl) HSQ.out hZlt (fun _ => rfl)
    (fun pre Zc V => J pre Zc V ∧ (∀ k, Zc k → k < V.heap.size) ∧ pre = [])
    (fun c pre Zc V => False)
    ⟨fun s Zc V V' row hs hg hr => ⟨hJ.grow s Zc V V' row hs.1 hg (fun r e => ⟨by have := (hr r e).1; omega, (hr r e).2⟩), (fun k hk => by
        rcases hk with hk | ⟨-, hk⟩
        · exact Nat.lt_of_lt_of_le (hs.2.1 k hk) hg.size
        · exact hk), hs.2.2⟩, fun s Zc Z' V hs hz => ⟨hJ.less _ _ _ _ hs.1 hz, fun k hk => hs.2.1 k (hz k hk), hs.2.2⟩⟩
    (fun c => ⟨fun s Zc V V' row hs _ _ => hs, fun s Zc Z' V hs _ => hs⟩)
    ⟨hJ4, hZlt, rfl⟩
    (fun x a' V => True)
    (fun x a' s A B row hs hg hr => trivial)
    ?assign ?body ?done ?stop
  case assign =>
    rintro l' pre Zc ⟨⟨x1, x2⟩, xn⟩ V K ⟨hj, hzl, hp⟩ hK
    gi_wp2
    exact hK _ _ ((KeepsOthers.alloc _ _).from _) (fun k hk => Below.heap_alloc V _ k (hzl k hk)) ⟨hJ.new _ hj, fun k hk => by have := hzl k hk; simp; omega, hp⟩ trivial
  case body =>
    rintro l' pre Zc x9 a' V hl hlr - - hlt
    exact absurd hlt (Nat.not_lt_zero _)
  case done =>
    rintro D ys Zc V hD - ⟨hj, -, rfl⟩ hK
    gi_wp2
    refine ⟨by simp, .inl ⟨_, _, rfl, run_takeDeferred hK, ?_⟩⟩
    exact ⟨_, results_none rfl _ _ _, ⟨_, rfl⟩, .inl ⟨_, _, rfl, hJ.turn _ hj (by omega) hK rfl⟩⟩
  case stop =>
    rintro D c pre Zc V hD hpre hno hK
    exact hno.elim
end
end Go.Proofs.Ytnhjkipaclchiab
