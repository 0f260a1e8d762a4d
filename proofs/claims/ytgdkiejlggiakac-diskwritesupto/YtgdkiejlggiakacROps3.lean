import Derived.Test.YtgdkiejlggiakacROps2
import Derived.Deep.AppendLies
namespace Go.Proofs.Ytgdkiejlggiakac
set_option linter.unusedVariables false
set_option linter.unusedSimpArgs false
open Go.RowKit Go.Maps
theorem infoBB : (Try.prog.info? 40).map (fun i => (i.zero, i.size, i.bytes)) = some (some (.slice none 0 0), 1, 24) := by kernel_rfl
theorem wpo_appV {w : World} {o : Oper} {a : Act} {K : Act → World → Prop} {Q : Exit → Act → World → Prop} (s x : Operand)
    (ho : o.op = .call { callee := .builtin .append, args := #[s, x], argTypes := #[30, 30] }) (v : Value) (l : List Value) (n : Nat) (y : Value) (g : Nat) (hn : n = l.length)
    (hs : a.eval s = v) (hown : OwnV w v l) (hx : a.eval x = .slice (some ⟨g, 0, none⟩) 1 1) (hg : w.heap[g]? = some (.cells #[y] 40 (0, 0))) (hy : y.oneCell' = true) (hb : n ≤ 1099511627777)
    (h : ∀ g' cap w', OwnV w' (.slice (some ⟨g', 0, none⟩) (n + 1) cap) (l ++ [y]) → w.grownBy w' v.ownBlock → (v.ownBlock = some g' ∨ g' = w.heap.size) → K (a.put o.dst (.slice (some ⟨g', 0, none⟩) (n + 1) cap)) w') : Oper.wp Try.prog o a w K Q := by
  subst hn
  obtain ⟨i0, hi, hz0, hz1, hz2⟩ := info_parts infoBB
  refine wp_append_lies w s x 30 ho 0 40 i0 (.slice none 0 0) 1 24 Try.underlying30 hi hz0 hz1 hz2 rfl (by decide) v l.length l hs hown ⟨g, 0, none⟩ 1 1 [y] hx rfl (World.news_of_block hg) (by intro u hu; simp at hu; subst hu; exact hy) (by decide) (by simp only [maxLen]; omega) (by omega) (Nat.zero_le _) w.heap.size rfl ?_
  intro g' cap w' h1 h2 h3 _
  refine h g' cap w' ?_ h2 h3
  unfold OwnV
  rw [List.length_append]
  exact h1
/-- a version more -/
theorem RDk.addVer {w w5 U w7 : World} {rp gs N : Nat} {d : Dst} {VT VV : Nat → Value} {vs : Nat → List Value} {Fp : Nat → Prop} (h : RDk w rp gs N d VT VV vs Fp) (i : Nat) (hi : i < N) (xs : List UInt8) (hxl : xs.length = 128) (h5 : Below w.heap.size w w5) {u5 : Value} {g5 : Nat} (hby : ByAt w5 (fun b => b = g5) u5 xs) (hg5 : w.heap.size ≤ g5) (hU : Below w5.heap.size w5 U) {v7 : Value} (hg7 : U.grownBy w7 (VV i).ownBlock) (ho7 : OwnV w7 v7 (vs i ++ [u5])) (hwh : v7.ownBlock = (VV i).ownBlock ∨ v7.ownBlock = some U.heap.size) :
    (w7.cell? ⟨rp, 0, none⟩ = some (.slice (some ⟨gs, 0, none⟩) N N) ∧ (∃ u, w7.cell? ⟨gs, i * 3 + 2, none⟩ = some u) ∧ w7.frozen? ⟨gs, i * 3 + 2, none⟩ = false) ∧
    RDk (w7.setCell ⟨gs, i * 3 + 2, none⟩ v7) rp gs N ⟨d.S, upd d.C i (d.C i ++ [xs]), d.off, d.fuse⟩ VT (upd VV i v7) (upd vs i (vs i ++ [u5])) (fun b => Fp b ∨ b = g5 ∨ v7.ownBlock = some b) ∧ Chg (fun b => b = gs ∨ (VV i).ownBlock = some b) w (w7.setCell ⟨gs, i * 3 + 2, none⟩ v7) := by
  obtain ⟨cur, k1, k2⟩ := h.hs
  have hwU : Below w.heap.size w U := below_next h5 hU
  have hcU : Chg (fun b => (VV i).ownBlock = some b) U w7 := Chg.of_grown hg7 (fun b hb => hb)
  have hc7 : Chg (fun b => (VV i).ownBlock = some b) w w7 := (Chg.of_below (F := fun b => (VV i).ownBlock = some b) hwU).trans hcU (fun b hb => .inl hb)
  have hnV : ∀ (b : Nat) cs T fr, w.heap[b]? = some (.cells cs T fr) → T ≠ 40 → ¬ (VV i).ownBlock = some b := fun b cs T fr hb hT e => by
    obtain ⟨c, h3⟩ := (h.own i hi).at_ e
    rw [hb] at h3
    simp only [Option.some.injEq, Obj.cells.injEq] at h3
    exact hT h3.2.1
  have hm7 : w7.heap[gs]? = some (.cells cur 98 (0, 0)) := (hc7.block gs (Array.getElem?_eq_some_iff.1 k1).1 (hnV _ _ _ _ k1 (by decide))).trans k1
  have hp7 := (hc7.block rp (Array.getElem?_eq_some_iff.1 h.hp).1 (hnV _ _ _ _ h.hp (by decide))).trans h.hp
  have hc := set_chg w7 gs (i * 3 + 2) v7
  have hcw : Chg (fun b => b = gs ∨ (VV i).ownBlock = some b) w (w7.setCell ⟨gs, i * 3 + 2, none⟩ v7) := (hc7.mono (G := fun b => b = gs ∨ (VV i).ownBlock = some b) (fun b hb => .inr hb)).trans hc (fun b hb => .inl (.inl hb))
  obtain ⟨e1, e2⟩ := set_sec hm7 i 2 (by decide) v7
  have hsz : i * 3 + 2 < cur.size := (Array.getElem?_eq_some_iff.1 (k2 i hi).2.2).1
  have hlU : ∀ b, (VV i).ownBlock = some b → b < w.heap.size := fun b hb => (World.ownsRow.lt (h.own i hi) b hb).2
  have hsz5 := h5.size
  have hszU := hU.size
  have hs7 := hcU.size
  have hglt : gs < w.heap.size := (Array.getElem?_eq_some_iff.1 k1).1
  have hby7 : ByAt (w7.setCell ⟨gs, i * 3 + 2, none⟩ v7) (fun b => Fp b ∨ b = g5 ∨ v7.ownBlock = some b) u5 xs := by
    have hA := hby.kept (Fp' := fun b => b = g5) (Chg.of_below (F := fun _ => False) hU) (fun _ _ _ _ _ hf => hf) (fun _ hb => hb)
    have hB := hA.kept (Fp' := fun b => b = g5) hcU (fun b _ _ hb _ e => by have := hlU b e; omega) (fun _ hb => hb)
    exact hB.kept hc (fun b _ _ hb _ e => by omega) (fun b hb => .inr (.inl hb))
  have hv7l : ∀ b, v7.ownBlock = some b → b < w7.heap.size := fun b hb => (World.ownsRow.lt ho7 b hb).2
  have hput := h.put (w' := w7.setCell ⟨gs, i * 3 + 2, none⟩ v7) (Fp' := fun b => Fp b ∨ b = g5 ∨ v7.ownBlock = some b) i hi (d.S.getD i Sec.zero) (d.C i ++ [xs]) (VT i) v7 (vs i ++ [u5]) (by
      have hl := h.len
      have e9 : d.S.getD i Sec.zero = d.S[i]'(by omega) := by simp [show i < d.S.length by omega]
      rw [e9]
      exact h.fit _ (List.getElem_mem _)) hcw ?_ (fun b hb => .inl hb) ?_ ?_ ?_ ?_ ?_ (fun b hb => .inr (.inr hb))
  · rw [upd_id, set_getD] at hput
    refine ⟨⟨by rw [cell_of_row _ _ 0 _ _ _ hp7]; rfl, ⟨VV i, by rw [cell_of_row _ _ _ _ _ _ hm7, (k2 i hi).2.2]⟩, frozen_of_row w7 gs _ _ _ hm7⟩, hput, hcw⟩
  · intro cur' hcur'
    rw [k1] at hcur'
    simp only [Option.some.injEq, Obj.cells.injEq] at hcur'
    obtain ⟨rfl, -⟩ := hcur'
    exact ⟨_, e1, fun j hj => e2 j (fun e => hj (by omega)), by rw [e2 _ (by omega)]; exact (k2 i hi).1, by rw [e2 _ (by omega)]; exact (k2 i hi).2.1, by rw [Array.getElem?_setIfInBounds_self_of_lt hsz]⟩
  · rintro b (hb | hb | hb)
    · exact Nat.lt_of_lt_of_le (h.flt b hb) hcw.size
    · obtain ⟨b', o', c', -, e', -, cs, fr, h9⟩ := hby.ex
      have h10 := (Array.getElem?_eq_some_iff.1 h9).1
      have h11 := hc.size
      have e2 : b' = g5 := e'
      omega
    · have := hv7l b hb; have := hc.size; omega
  · rcases h.txt i hi with h3 | ⟨h3, h4⟩
    · exact .inl h3
    · refine .inr ⟨h3, h4.kept hcw (fun b cs fr _ hb hf => ?_) (fun _ hb => .inl hb)⟩
      rcases hf with rfl | hf
      · rw [k1] at hb; simp only [Option.some.injEq, Obj.cells.injEq] at hb; exact absurd hb.2.1 (by decide)
      · exact hnV _ _ _ _ hb (by decide) hf
  · refine ho7.chg hc (fun b hb e => ?_)
    subst e
    obtain ⟨c, h3⟩ := ho7.at_ hb
    rw [hm7] at h3; simp only [Option.some.injEq, Obj.cells.injEq] at h3; exact absurd h3.2.1 (by decide)
  · obtain ⟨h3, h4⟩ := h.vers i hi
    refine ⟨by simp [h3], fun k hk => ?_⟩
    by_cases hk2 : k < (d.C i).length
    · obtain ⟨u, h6, h7, h8⟩ := h4 k hk2
      refine ⟨u, by rw [List.getElem?_append_left (by omega)]; exact h6, ?_, ?_⟩
      · rw [List.getElem_append_left hk2]; exact h7
      · rw [List.getElem_append_left hk2]
        refine h8.kept hcw (fun b cs fr _ hb hf => ?_) (fun _ hb => .inl hb)
        rcases hf with rfl | hf
        · rw [k1] at hb; simp only [Option.some.injEq, Obj.cells.injEq] at hb; exact absurd hb.2.1 (by decide)
        · exact hnV _ _ _ _ hb (by decide) hf
    · have hke : k = (d.C i).length := by simp at hk; omega
      subst hke
      refine ⟨u5, by rw [List.getElem?_append_right (by omega), h3]; simp, ?_, ?_⟩
      · simp [hxl]
      · simpa using hby7
  · rcases hwh with h3 | h3
    · exact .inl h3
    · exact .inr (fun b hb => by rw [h3] at hb; cases hb; omega)
/-- a step of the document's disk: its own blocks, and new ones -/
structure RStep (Fp Fp' : Nat → Prop) (w w' : World) : Prop where
  chg : Chg Fp w w'
  new : ∀ b, Fp' b → Fp b ∨ w.heap.size ≤ b
def BRv (rp gs N : Nat) (u : World) : Prop := u.cell? ⟨rp, 0, none⟩ = some (.slice (some ⟨gs, 0, none⟩) N N)
theorem Dst.write_can {d : Dst} (h : d.can = true) (i : Nat) (x : List UInt8) : d.write i x = ⟨d.begun.S, upd d.begun.C i (d.begun.C i ++ [x]), d.begun.off, d.begun.fuse⟩ := by unfold Dst.write; rw [h]; rfl
theorem Dst.write_cant {d : Dst} (h : d.can = false) (i : Nat) (x : List UInt8) : d.write i x = d.begun := by unfold Dst.write; rw [h]; rfl
set_option maxRecDepth 20000 in
set_option maxHeartbeats 1600000 in
theorem rwrite_t {w : World} {rp gs N : Nat} {d : Dst} {VT VV : Nat → Value} {vs : Nat → List Value} {Fp : Nat → Prop} (h : RDk w rp gs N d VT VV vs Fp) (i : Nat) (hi : i < N) (ao : Option Addr) (cap : Nat) (xs : List UInt8) (hx : Rd w ao xs) (hxl : xs.length = 128) (hnil : ao = none → cap = 0) (hab : ∀ a, ao = some a → a.block ≠ rp) (hfew : (d.C i).length ≤ 1099511627776) :
    Calls Try.prog 48 #[.pointer (some ⟨rp, 0, none⟩), .int .i64 (i : Int), .slice ao 128 cap] w fun e w' => e = .returned (.int .i64 (if d.can then 0 else 5)) ∧ ∃ VV' vs' Fp', RDk w' rp gs N (d.write i xs) VT VV' vs' Fp' ∧ RStep Fp Fp' w w' := by
  have hth := rthere_t h (i : Int)
  rw [decide_eq_true (show 0 ≤ (i : Int) ∧ (i : Int) < (N : Int) by omega)] at hth
  have HTH : Hid _ := hth
  have HDN : Hid _ := rdone_t h
  have H : Hid _ := h
  have HX : Hid _ := hx
  have HXL : Hid _ := hxl
  have HNIL : Hid _ := hnil
  have HAB : Hid _ := hab
  have HFEW : Hid _ := hfew
  have hi0 : (0 : Int) ≤ (i : Int) := by omega
  have hiN : (i : Int) < (N : Int) := by omega
  clear hth h hx hxl hnil hab hfew
  cases hcan : d.can
  · rw [hcan] at HDN
    have HWC : Hid (∀ x, d.write i x = d.begun) := fun x => Dst.write_cant hcan i x
    clear hcan
    go_enter Try.func48, Try.ntmps48
    go_wp2_with fail
    refine Calls.mono HTH.out ?_
    rintro e w1 ⟨rfl, hq⟩
    have hq := hq.symm
    subst hq
    go_wp2_with fail
    refine Calls.mono HDN.out ?_
    rintro e w1 ⟨rfl, hrd1, hg1⟩
    have HR1 : Hid _ := hrd1
    have HG1 : Hid _ := hg1
    clear hrd1 hg1
    go_wp2
    go_ret
    refine ⟨rfl, VV, vs, Fp, by rw [HWC.out]; exact HR1.out, Chg.of_grown HG1.out (fun b hb => by cases hb; exact H.out.frp), fun b hb => .inl hb⟩
  · rw [hcan] at HDN
    have HWC : Hid _ := Dst.write_can hcan i xs
    clear hcan
    go_enter Try.func48, Try.ntmps48
    go_wp2_with fail
    refine Calls.mono HTH.out ?_
    rintro e w1 ⟨rfl, hq⟩
    have hq := hq.symm
    subst hq
    go_wp2_with fail
    refine Calls.mono HDN.out ?_
    rintro e w1 ⟨rfl, hrd1, hg1⟩
    have HR1 : Hid _ := hrd1
    have HG1 : Hid _ := hg1
    have HX1 : Hid (Rd w1 ao xs) := Rd.chg HX.out (Chg.of_grown (F := fun b => b = rp) hg1 (fun b hb => by cases hb; rfl)) (fun a ha => HAB.out a ha)
    have c0 := hrd1.c0
    have s2 := hrd1.s2 i hi
    obtain ⟨av, cv, hvv, -, -⟩ := hrd1.versV i hi
    have hvl := (hrd1.vers i hi).1
    have hcb : d.begun.C i = d.C i := rfl
    rw [hcb] at hvv hvl
    obtain ⟨n, hn⟩ : ∃ n, n = (d.C i).length := ⟨_, rfl⟩
    rw [← hn] at hvv hvl
    rw [hvv] at s2
    have HOV : Hid (OwnV w1 (.slice av n cv) (vs i)) := by rw [← hvv]; exact hrd1.own i hi
    have HVV : Hid (VV i = .slice av n cv) := hvv
    have HNL : Hid (n = (vs i).length ∧ n ≤ 1099511627776) := ⟨hvl.symm, by rw [hn]; exact HFEW.out⟩
    have hbt : ∀ u, BRv rp gs N u → u.cell? ⟨rp, 0, none⟩ = some (.slice (some ⟨gs, 0, none⟩) N N) := fun u hu => hu
    have hT0 : BRv rp gs N w1.drew := c0
    have hgsl : gs < w1.heap.size := World.block_lt_of_cell? w1 _ s2
    have HCP : Hid (Calls Try.prog 74 #[.slice ao 128 cap] w1.drew fun e w' => ∃ g9 c9, e = .returned (.slice (some ⟨g9, 0, none⟩) 128 c9) ∧ w1.heap.size ≤ g9 ∧ ByAt w' (fun b => b = g9) (.slice (some ⟨g9, 0, none⟩) 128 c9) xs ∧ Below w1.heap.size w1 w') := by
      refine (copied_t ao 128 cap xs w1.drew HXL.out.symm (Rd.below HX1.out (Below.refl _ _).drew) HNIL.out (by decide)).mono ?_
      rintro e w' ⟨v, rfl, hown, hb9⟩
      have hv9 := hown.val
      rcases hown.2 with ⟨-, h0⟩ | ⟨g9, c9, cur9, rfl, hB9, hg9, -⟩
      · have := HXL.out; omega
      · obtain ⟨a8, c8, e8, -, -, -, hr8, -⟩ := hv9
        cases e8
        rw [HXL.out]
        exact ⟨g9, c9, rfl, hB9, ⟨g9, 0, c9, by rw [HXL.out], rfl, hr8, cur9, _, hg9⟩, below_next (B := w1) (Below.refl _ _).drew hb9⟩
    clear hrd1 hg1 hvv hvl hcb hn
    go_wp2_with fail
    refine wp_region_noPanic ?_
    refine wp_region_held_drew (S := (fun u => BRv rp gs N u)) (by kernel_rfl) (by first | exact hT0 | assumption | exact hT6 _ | exact hT7 _) (fun hHeld => ?_)
    refine take_at (i := 0) 19 (v := ?_) rfl rfl (by kernel_rfl) (by kernel_rfl) (by kernel_rfl) (fun _ _ _ h => h) (by rfl) ?_ hHeld ?_
    rotate_left
    · (intro w hSw; (try dsimp only at hSw); go_simp; try with_reducible rfl)
    simp only [Act.put, List.setIfInBounds_toArray, List.set_cons_zero, List.set_cons_succ]
    refine take_at (i := 1) 20 (v := ?_) rfl rfl (by kernel_rfl) (by kernel_rfl) (by kernel_rfl) (fun _ _ _ h => h) (by rfl) ?_ hHeld ?_
    rotate_left
    · (intro w hSw; (try dsimp only at hSw); go_simp; try with_reducible rfl)
    simp only [Act.put, List.setIfInBounds_toArray, List.set_cons_zero, List.set_cons_succ]
    refine take_at (i := 2) 21 (v := ?_) rfl rfl (by kernel_rfl) (by kernel_rfl) (by kernel_rfl) (fun _ _ _ h => h) (by rfl) ?_ hHeld ?_
    rotate_left
    · (intro w hSw; (try dsimp only at hSw); go_simp; try with_reducible rfl)
    simp only [Act.put, List.setIfInBounds_toArray, List.set_cons_zero, List.set_cons_succ]
    refine take_at (i := 3) 22 (v := ?_) rfl rfl (by kernel_rfl) (by kernel_rfl) (by kernel_rfl) (fun _ _ _ h => h) (by rfl) ?_ hHeld ?_
    rotate_left
    · (intro w hSw; (try dsimp only at hSw); go_simp; try with_reducible rfl)
    simp only [Act.put, List.setIfInBounds_toArray, List.set_cons_zero, List.set_cons_succ]
    refine take_at (i := 4) 23 (v := ?_) rfl rfl (by kernel_rfl) (by kernel_rfl) (by kernel_rfl) (fun _ _ _ h => h) (by rfl) ?_ hHeld ?_
    rotate_left
    · (intro w hSw; (try dsimp only at hSw); go_simp; try with_reducible rfl)
    simp only [Act.put, List.setIfInBounds_toArray, List.set_cons_zero, List.set_cons_succ]
    refine take_at (i := 5) 24 (v := ?_) rfl rfl (by kernel_rfl) (by kernel_rfl) (by kernel_rfl) (fun _ _ _ h => h) (by rfl) ?_ hHeld ?_
    rotate_left
    · (intro w hSw; (try dsimp only at hSw); go_simp; try with_reducible rfl)
    simp only [Act.put, List.setIfInBounds_toArray, List.set_cons_zero, List.set_cons_succ]
    refine take_at (i := 6) 25 (v := ?_) rfl rfl (by kernel_rfl) (by kernel_rfl) (by kernel_rfl) (fun _ _ _ h => h) (by rfl) ?_ hHeld ?_
    rotate_left
    · (intro w hSw; (try dsimp only at hSw); go_simp; try with_reducible rfl)
    simp only [Act.put, List.setIfInBounds_toArray, List.set_cons_zero, List.set_cons_succ]
    refine take_at (i := 7) 26 (v := ?_) rfl rfl (by kernel_rfl) (by kernel_rfl) (by kernel_rfl) (fun _ _ _ h => h) (by rfl) ?_ hHeld ?_
    rotate_left
    · (intro w hSw; (try dsimp only at hSw); go_simp; try with_reducible rfl)
    simp only [Act.put, List.setIfInBounds_toArray, List.set_cons_zero, List.set_cons_succ]
    refine take_at (i := 8) 27 (v := ?_) rfl rfl (by kernel_rfl) (by kernel_rfl) (by kernel_rfl) (fun _ _ _ h => h) (by rfl) ?_ hHeld ?_
    rotate_left
    · (intro w hSw; (try dsimp only at hSw); go_simp; try with_reducible rfl)
    simp only [Act.put, List.setIfInBounds_toArray, List.set_cons_zero, List.set_cons_succ]
    refine take_at (i := 9) 28 (v := ?_) rfl rfl (by kernel_rfl) (by kernel_rfl) (by kernel_rfl) (fun _ _ _ h => h) (by rfl) ?_ hHeld ?_
    rotate_left
    · (intro w hSw; (try dsimp only at hSw); go_simp; try with_reducible rfl)
    simp only [Act.put, List.setIfInBounds_toArray, List.set_cons_zero, List.set_cons_succ]
    refine take_at (i := 10) 29 (v := ?_) rfl rfl (by kernel_rfl) (by kernel_rfl) (by kernel_rfl) (fun _ _ _ h => h) (by rfl) ?_ hHeld ?_
    rotate_left
    · (intro w hSw; (try dsimp only at hSw); go_simp; try with_reducible rfl)
    simp only [Act.put, List.setIfInBounds_toArray, List.set_cons_zero, List.set_cons_succ]
    refine take_at (i := 11) 30 (v := ?_) rfl rfl (by kernel_rfl) (by kernel_rfl) (by kernel_rfl) (fun _ _ _ h => h) (by rfl) ?_ hHeld ?_
    rotate_left
    · (intro w hSw; (try dsimp only at hSw); go_simp; try with_reducible rfl)
    simp only [Act.put, List.setIfInBounds_toArray, List.set_cons_zero, List.set_cons_succ]
    refine take_at (i := 13) 32 (v := ?_) rfl rfl (by kernel_rfl) (by kernel_rfl) (by kernel_rfl) (fun _ _ _ h => h) (by rfl) ?_ hHeld ?_
    rotate_left
    · (intro w hSw; (try dsimp only at hSw); go_simp; try with_reducible rfl)
    simp only [Act.put, List.setIfInBounds_toArray, List.set_cons_zero, List.set_cons_succ]
    refine wpAnyH_ready (rs := [12, 14]) (by kernel_rfl) (by simp) ?_
    refine AllReadyH.cons (o := _) rfl (fun K hK => ?_) ?_
    focus
      rw [if_pos (by rfl)]
      refine val_wp 31 (v := ?_) rfl ?_ ?_
      rotate_left
      · (go_simp; try with_reducible rfl)
      refine hK.out _ _ (by first | exact hT0 | assumption | exact hT6 _ | exact hT7 _) ?_
      clear hK K
      intro hHeld2
      clear hHeld
      have hHeld := hHeld2
      clear hHeld2
      simp only [Act.put, List.setIfInBounds_toArray, List.set_cons_zero, List.set_cons_succ]
      refine run_at (i := 14) rfl (by kernel_rfl) (by rfl) (fun K hK => ?_)
      simp only [List.getElem_toArray, List.getElem_cons_zero, List.getElem_cons_succ]
      go_simp
      first | (go_at_call 74; refine HCP.out.mono ?_; rintro e w5 ⟨g9, c9, rfl, hg9, hby9, hb15⟩; have hT5 : BRv rp gs N w5 := (RDk.below HR1.out hb15).c0; have s25 : w5.cell? ⟨gs, i * 3 + 2, none⟩ = some (.slice av n cv) := (hb15.cell (p := ⟨gs, i * 3 + 2, none⟩) hgsl).trans s2; have hgs5 : gs < w5.heap.size := Nat.lt_of_lt_of_le hgsl hb15.size; have hT6 : ∀ ob, BRv rp gs N (w5.alloc ob) := (fun ob => (RDk.below HR1.out (below_next hb15 (al (Below.refl _ _) ob))).c0); have hT7 : ∀ ob, BRv rp gs N (w5.alloc ob).drew := (fun ob => (RDk.below HR1.out (below_next hb15 (al (Below.refl _ _) ob).drew)).c0); have s26 : ∀ ob : Obj, (w5.alloc ob).cell? ⟨gs, i * 3 + 2, none⟩ = some (.slice av n cv) := (fun ob => ((al (Below.refl _ _) ob).cell (p := ⟨gs, i * 3 + 2, none⟩) hgs5).trans s25)) | (refine wpo_appV _ _ rfl (.slice av n cv) (vs i) n (.slice (some ⟨g9, 0, none⟩) 128 c9) w5.heap.size HNL.out.1 rfl (OwnV.chg HOV.out (Chg.of_below (F := fun _ => False) (below_next hb15 (al (Below.refl _ _) _))) (fun _ _ hf => hf)) rfl (heap_alloc_new w5 _) rfl (by have := HNL.out; omega) ?_; intro g7 c7 w7 ho7 hg7 hwh7; obtain ⟨⟨e1, ⟨u7, e2⟩, e3⟩, e4, e5⟩ := RDk.addVer HR1.out i hi xs HXL.out hb15 hby9 hg9 (al (Below.refl _ _) _) (v7 := .slice (some ⟨g7, 0, none⟩) (n + 1) c7) (by rw [HVV.out]; exact hg7) ho7 (by rw [HVV.out]; rcases hwh7 with e | e; (· exact .inl e.symm); (· exact .inr (by rw [e]; rfl))); have hT8 : BRv rp gs N w7 := e1; have hT9 : BRv rp gs N (w7.setCell ⟨gs, i * 3 + 2, none⟩ (.slice (some ⟨g7, 0, none⟩) (n + 1) c7)) := e4.c0; have HR8 : Hid _ := e4; have HC8 : Hid _ := e5; have HG9 : Hid _ := hg9; have HB15 : Hid _ := hb15; have HWH : Hid _ := hwh7; clear e1 e4 e5 ho7 hg7 hwh7 hby9)
      go_wp2_with fail
      refine hK.out _ _ (by first | exact hT0 | assumption | exact hT6 _ | exact hT7 _) ?_
      clear hK K
      intro hHeld2
      clear hHeld
      have hHeld := hHeld2
      clear hHeld2
      try simp only [Act.put, List.setIfInBounds_toArray, List.set_cons_zero, List.set_cons_succ]
      refine run_at (i := 15) rfl (by kernel_rfl) (by rfl) (fun K hK => ?_)
      simp only [List.getElem_toArray, List.getElem_cons_zero, List.getElem_cons_succ]
      go_simp
      go_wp2_with fail
      refine hK.out _ _ (by first | exact hT0 | assumption | exact hT6 _ | exact hT7 _) ?_
      clear hK K
      intro hHeld2
      clear hHeld
      have hHeld := hHeld2
      clear hHeld2
      try simp only [Act.put, List.setIfInBounds_toArray, List.set_cons_zero, List.set_cons_succ]
      refine run_at (i := 16) rfl (by kernel_rfl) (by rfl) (fun K hK => ?_)
      simp only [List.getElem_toArray, List.getElem_cons_zero, List.getElem_cons_succ]
      first | (go_at_call 74; refine HCP.out.mono ?_; rintro e w5 ⟨g9, c9, rfl, hg9, hby9, hb15⟩; have hT5 : BRv rp gs N w5 := (RDk.below HR1.out hb15).c0; have s25 : w5.cell? ⟨gs, i * 3 + 2, none⟩ = some (.slice av n cv) := (hb15.cell (p := ⟨gs, i * 3 + 2, none⟩) hgsl).trans s2; have hgs5 : gs < w5.heap.size := Nat.lt_of_lt_of_le hgsl hb15.size; have hT6 : ∀ ob, BRv rp gs N (w5.alloc ob) := (fun ob => (RDk.below HR1.out (below_next hb15 (al (Below.refl _ _) ob))).c0); have hT7 : ∀ ob, BRv rp gs N (w5.alloc ob).drew := (fun ob => (RDk.below HR1.out (below_next hb15 (al (Below.refl _ _) ob).drew)).c0); have s26 : ∀ ob : Obj, (w5.alloc ob).cell? ⟨gs, i * 3 + 2, none⟩ = some (.slice av n cv) := (fun ob => ((al (Below.refl _ _) ob).cell (p := ⟨gs, i * 3 + 2, none⟩) hgs5).trans s25)) | (refine wpo_appV _ _ rfl (.slice av n cv) (vs i) n (.slice (some ⟨g9, 0, none⟩) 128 c9) w5.heap.size HNL.out.1 rfl (OwnV.chg HOV.out (Chg.of_below (F := fun _ => False) (below_next hb15 (al (Below.refl _ _) _))) (fun _ _ hf => hf)) rfl (heap_alloc_new w5 _) rfl (by have := HNL.out; omega) ?_; intro g7 c7 w7 ho7 hg7 hwh7; obtain ⟨⟨e1, ⟨u7, e2⟩, e3⟩, e4, e5⟩ := RDk.addVer HR1.out i hi xs HXL.out hb15 hby9 hg9 (al (Below.refl _ _) _) (v7 := .slice (some ⟨g7, 0, none⟩) (n + 1) c7) (by rw [HVV.out]; exact hg7) ho7 (by rw [HVV.out]; rcases hwh7 with e | e; (· exact .inl e.symm); (· exact .inr (by rw [e]; rfl))); have hT8 : BRv rp gs N w7 := e1; have hT9 : BRv rp gs N (w7.setCell ⟨gs, i * 3 + 2, none⟩ (.slice (some ⟨g7, 0, none⟩) (n + 1) c7)) := e4.c0; have HR8 : Hid _ := e4; have HC8 : Hid _ := e5; have HG9 : Hid _ := hg9; have HB15 : Hid _ := hb15; have HWH : Hid _ := hwh7; clear e1 e4 e5 ho7 hg7 hwh7 hby9)
      refine hK.out _ _ (by first | exact hT0 | assumption | exact hT6 _ | exact hT7 _) ?_
      clear hK K
      intro hHeld2
      clear hHeld
      have hHeld := hHeld2
      clear hHeld2
      try simp only [Act.put, List.setIfInBounds_toArray, List.set_cons_zero, List.set_cons_succ]
      refine take_at (i := 17) 36 (v := ?_) rfl rfl (by kernel_rfl) (by kernel_rfl) (by kernel_rfl) (fun _ _ _ h => h) (by rfl) ?_ hHeld ?_
      rotate_left
      · (intro w hSw; (try dsimp only at hSw); go_simp; try with_reducible rfl)
      simp only [Act.put, List.setIfInBounds_toArray, List.set_cons_zero, List.set_cons_succ]
      refine take_at (i := 18) 37 (v := ?_) rfl rfl (by kernel_rfl) (by kernel_rfl) (by kernel_rfl) (fun _ _ _ h => h) (by rfl) ?_ hHeld ?_
      rotate_left
      · (intro w hSw; (try dsimp only at hSw); go_simp; try with_reducible rfl)
      simp only [Act.put, List.setIfInBounds_toArray, List.set_cons_zero, List.set_cons_succ]
      refine run_at (i := 19) rfl (by kernel_rfl) (by rfl) (fun K hK => ?_)
      simp only [List.getElem_toArray, List.getElem_cons_zero, List.getElem_cons_succ]
      go_simp
      go_wp2_with fail
      refine hK.out _ _ (by first | exact hT0 | assumption | exact hT6 _ | exact hT7 _) ?_
      clear hK K
      intro hHeld2
      clear hHeld
      have hHeld := hHeld2
      clear hHeld2
      try simp only [Act.put, List.setIfInBounds_toArray, List.set_cons_zero, List.set_cons_succ]
      refine wpAnyH_done (by kernel_rfl) ?_ _
      refine NoPanic.normal ?_
    rotate_left 1
    refine AllReadyH.cons (o := _) rfl (fun K hK => ?_) AllReadyH.nil
    focus
      rw [if_pos (by rfl)]
      simp only [List.getElem_toArray, List.getElem_cons_zero, List.getElem_cons_succ]
      go_simp
      first | (go_at_call 74; refine HCP.out.mono ?_; rintro e w5 ⟨g9, c9, rfl, hg9, hby9, hb15⟩; have hT5 : BRv rp gs N w5 := (RDk.below HR1.out hb15).c0; have s25 : w5.cell? ⟨gs, i * 3 + 2, none⟩ = some (.slice av n cv) := (hb15.cell (p := ⟨gs, i * 3 + 2, none⟩) hgsl).trans s2; have hgs5 : gs < w5.heap.size := Nat.lt_of_lt_of_le hgsl hb15.size; have hT6 : ∀ ob, BRv rp gs N (w5.alloc ob) := (fun ob => (RDk.below HR1.out (below_next hb15 (al (Below.refl _ _) ob))).c0); have hT7 : ∀ ob, BRv rp gs N (w5.alloc ob).drew := (fun ob => (RDk.below HR1.out (below_next hb15 (al (Below.refl _ _) ob).drew)).c0); have s26 : ∀ ob : Obj, (w5.alloc ob).cell? ⟨gs, i * 3 + 2, none⟩ = some (.slice av n cv) := (fun ob => ((al (Below.refl _ _) ob).cell (p := ⟨gs, i * 3 + 2, none⟩) hgs5).trans s25)) | (refine wpo_appV _ _ rfl (.slice av n cv) (vs i) n (.slice (some ⟨g9, 0, none⟩) 128 c9) w5.heap.size HNL.out.1 rfl (OwnV.chg HOV.out (Chg.of_below (F := fun _ => False) (below_next hb15 (al (Below.refl _ _) _))) (fun _ _ hf => hf)) rfl (heap_alloc_new w5 _) rfl (by have := HNL.out; omega) ?_; intro g7 c7 w7 ho7 hg7 hwh7; obtain ⟨⟨e1, ⟨u7, e2⟩, e3⟩, e4, e5⟩ := RDk.addVer HR1.out i hi xs HXL.out hb15 hby9 hg9 (al (Below.refl _ _) _) (v7 := .slice (some ⟨g7, 0, none⟩) (n + 1) c7) (by rw [HVV.out]; exact hg7) ho7 (by rw [HVV.out]; rcases hwh7 with e | e; (· exact .inl e.symm); (· exact .inr (by rw [e]; rfl))); have hT8 : BRv rp gs N w7 := e1; have hT9 : BRv rp gs N (w7.setCell ⟨gs, i * 3 + 2, none⟩ (.slice (some ⟨g7, 0, none⟩) (n + 1) c7)) := e4.c0; have HR8 : Hid _ := e4; have HC8 : Hid _ := e5; have HG9 : Hid _ := hg9; have HB15 : Hid _ := hb15; have HWH : Hid _ := hwh7; clear e1 e4 e5 ho7 hg7 hwh7 hby9)
      go_wp2_with fail
      refine hK.out _ _ (by first | exact hT0 | assumption | exact hT6 _ | exact hT7 _) ?_
      clear hK K
      intro hHeld2
      clear hHeld
      have hHeld := hHeld2
      clear hHeld2
      try simp only [Act.put, List.setIfInBounds_toArray, List.set_cons_zero, List.set_cons_succ]
      refine wpAnyH_ready (rs := [12, 15]) (by kernel_rfl) (by simp) ?_
      refine AllReadyH.cons (o := _) rfl (fun K hK => ?_) ?_
      focus
        rw [if_pos (by rfl)]
        refine val_wp 31 (v := ?_) rfl ?_ ?_
        rotate_left
        · (go_simp; try with_reducible rfl)
        refine hK.out _ _ (by first | exact hT0 | assumption | exact hT6 _ | exact hT7 _) ?_
        clear hK K
        intro hHeld2
        clear hHeld
        have hHeld := hHeld2
        clear hHeld2
        simp only [Act.put, List.setIfInBounds_toArray, List.set_cons_zero, List.set_cons_succ]
        refine run_at (i := 15) rfl (by kernel_rfl) (by rfl) (fun K hK => ?_)
        simp only [List.getElem_toArray, List.getElem_cons_zero, List.getElem_cons_succ]
        go_simp
        go_wp2_with fail
        refine hK.out _ _ (by first | exact hT0 | assumption | exact hT6 _ | exact hT7 _) ?_
        clear hK K
        intro hHeld2
        clear hHeld
        have hHeld := hHeld2
        clear hHeld2
        try simp only [Act.put, List.setIfInBounds_toArray, List.set_cons_zero, List.set_cons_succ]
        refine run_at (i := 16) rfl (by kernel_rfl) (by rfl) (fun K hK => ?_)
        simp only [List.getElem_toArray, List.getElem_cons_zero, List.getElem_cons_succ]
        first | (go_at_call 74; refine HCP.out.mono ?_; rintro e w5 ⟨g9, c9, rfl, hg9, hby9, hb15⟩; have hT5 : BRv rp gs N w5 := (RDk.below HR1.out hb15).c0; have s25 : w5.cell? ⟨gs, i * 3 + 2, none⟩ = some (.slice av n cv) := (hb15.cell (p := ⟨gs, i * 3 + 2, none⟩) hgsl).trans s2; have hgs5 : gs < w5.heap.size := Nat.lt_of_lt_of_le hgsl hb15.size; have hT6 : ∀ ob, BRv rp gs N (w5.alloc ob) := (fun ob => (RDk.below HR1.out (below_next hb15 (al (Below.refl _ _) ob))).c0); have hT7 : ∀ ob, BRv rp gs N (w5.alloc ob).drew := (fun ob => (RDk.below HR1.out (below_next hb15 (al (Below.refl _ _) ob).drew)).c0); have s26 : ∀ ob : Obj, (w5.alloc ob).cell? ⟨gs, i * 3 + 2, none⟩ = some (.slice av n cv) := (fun ob => ((al (Below.refl _ _) ob).cell (p := ⟨gs, i * 3 + 2, none⟩) hgs5).trans s25)) | (refine wpo_appV _ _ rfl (.slice av n cv) (vs i) n (.slice (some ⟨g9, 0, none⟩) 128 c9) w5.heap.size HNL.out.1 rfl (OwnV.chg HOV.out (Chg.of_below (F := fun _ => False) (below_next hb15 (al (Below.refl _ _) _))) (fun _ _ hf => hf)) rfl (heap_alloc_new w5 _) rfl (by have := HNL.out; omega) ?_; intro g7 c7 w7 ho7 hg7 hwh7; obtain ⟨⟨e1, ⟨u7, e2⟩, e3⟩, e4, e5⟩ := RDk.addVer HR1.out i hi xs HXL.out hb15 hby9 hg9 (al (Below.refl _ _) _) (v7 := .slice (some ⟨g7, 0, none⟩) (n + 1) c7) (by rw [HVV.out]; exact hg7) ho7 (by rw [HVV.out]; rcases hwh7 with e | e; (· exact .inl e.symm); (· exact .inr (by rw [e]; rfl))); have hT8 : BRv rp gs N w7 := e1; have hT9 : BRv rp gs N (w7.setCell ⟨gs, i * 3 + 2, none⟩ (.slice (some ⟨g7, 0, none⟩) (n + 1) c7)) := e4.c0; have HR8 : Hid _ := e4; have HC8 : Hid _ := e5; have HG9 : Hid _ := hg9; have HB15 : Hid _ := hb15; have HWH : Hid _ := hwh7; clear e1 e4 e5 ho7 hg7 hwh7 hby9)
        refine hK.out _ _ (by first | exact hT0 | assumption | exact hT6 _ | exact hT7 _) ?_
        clear hK K
        intro hHeld2
        clear hHeld
        have hHeld := hHeld2
        clear hHeld2
        try simp only [Act.put, List.setIfInBounds_toArray, List.set_cons_zero, List.set_cons_succ]
        refine take_at (i := 17) 36 (v := ?_) rfl rfl (by kernel_rfl) (by kernel_rfl) (by kernel_rfl) (fun _ _ _ h => h) (by rfl) ?_ hHeld ?_
        rotate_left
        · (intro w hSw; (try dsimp only at hSw); go_simp; try with_reducible rfl)
        simp only [Act.put, List.setIfInBounds_toArray, List.set_cons_zero, List.set_cons_succ]
        refine take_at (i := 18) 37 (v := ?_) rfl rfl (by kernel_rfl) (by kernel_rfl) (by kernel_rfl) (fun _ _ _ h => h) (by rfl) ?_ hHeld ?_
        rotate_left
        · (intro w hSw; (try dsimp only at hSw); go_simp; try with_reducible rfl)
        simp only [Act.put, List.setIfInBounds_toArray, List.set_cons_zero, List.set_cons_succ]
        refine run_at (i := 19) rfl (by kernel_rfl) (by rfl) (fun K hK => ?_)
        simp only [List.getElem_toArray, List.getElem_cons_zero, List.getElem_cons_succ]
        go_simp
        go_wp2_with fail
        refine hK.out _ _ (by first | exact hT0 | assumption | exact hT6 _ | exact hT7 _) ?_
        clear hK K
        intro hHeld2
        clear hHeld
        have hHeld := hHeld2
        clear hHeld2
        try simp only [Act.put, List.setIfInBounds_toArray, List.set_cons_zero, List.set_cons_succ]
        refine wpAnyH_done (by kernel_rfl) ?_ _
        refine NoPanic.normal ?_
      rotate_left 1
      refine AllReadyH.cons (o := _) rfl (fun K hK => ?_) AllReadyH.nil
      focus
        rw [if_pos (by rfl)]
        simp only [List.getElem_toArray, List.getElem_cons_zero, List.getElem_cons_succ]
        go_simp
        go_wp2_with fail
        refine hK.out _ _ (by first | exact hT0 | assumption | exact hT6 _ | exact hT7 _) ?_
        clear hK K
        intro hHeld2
        clear hHeld
        have hHeld := hHeld2
        clear hHeld2
        try simp only [Act.put, List.setIfInBounds_toArray, List.set_cons_zero, List.set_cons_succ]
        refine val_at (i := 12) 31 (v := ?_) rfl rfl (by kernel_rfl) (by rfl) ?_ ?_ ?_
        rotate_left
        · (go_simp; try with_reducible rfl)
        · (first | exact hT0 | assumption | exact hT6 _ | exact hT7 _)
        intro hHeld2
        clear hHeld
        have hHeld := hHeld2
        clear hHeld2
        simp only [Act.put, List.setIfInBounds_toArray, List.set_cons_zero, List.set_cons_succ]
        refine run_at (i := 16) rfl (by kernel_rfl) (by rfl) (fun K hK => ?_)
        simp only [List.getElem_toArray, List.getElem_cons_zero, List.getElem_cons_succ]
        first | (go_at_call 74; refine HCP.out.mono ?_; rintro e w5 ⟨g9, c9, rfl, hg9, hby9, hb15⟩; have hT5 : BRv rp gs N w5 := (RDk.below HR1.out hb15).c0; have s25 : w5.cell? ⟨gs, i * 3 + 2, none⟩ = some (.slice av n cv) := (hb15.cell (p := ⟨gs, i * 3 + 2, none⟩) hgsl).trans s2; have hgs5 : gs < w5.heap.size := Nat.lt_of_lt_of_le hgsl hb15.size; have hT6 : ∀ ob, BRv rp gs N (w5.alloc ob) := (fun ob => (RDk.below HR1.out (below_next hb15 (al (Below.refl _ _) ob))).c0); have hT7 : ∀ ob, BRv rp gs N (w5.alloc ob).drew := (fun ob => (RDk.below HR1.out (below_next hb15 (al (Below.refl _ _) ob).drew)).c0); have s26 : ∀ ob : Obj, (w5.alloc ob).cell? ⟨gs, i * 3 + 2, none⟩ = some (.slice av n cv) := (fun ob => ((al (Below.refl _ _) ob).cell (p := ⟨gs, i * 3 + 2, none⟩) hgs5).trans s25)) | (refine wpo_appV _ _ rfl (.slice av n cv) (vs i) n (.slice (some ⟨g9, 0, none⟩) 128 c9) w5.heap.size HNL.out.1 rfl (OwnV.chg HOV.out (Chg.of_below (F := fun _ => False) (below_next hb15 (al (Below.refl _ _) _))) (fun _ _ hf => hf)) rfl (heap_alloc_new w5 _) rfl (by have := HNL.out; omega) ?_; intro g7 c7 w7 ho7 hg7 hwh7; obtain ⟨⟨e1, ⟨u7, e2⟩, e3⟩, e4, e5⟩ := RDk.addVer HR1.out i hi xs HXL.out hb15 hby9 hg9 (al (Below.refl _ _) _) (v7 := .slice (some ⟨g7, 0, none⟩) (n + 1) c7) (by rw [HVV.out]; exact hg7) ho7 (by rw [HVV.out]; rcases hwh7 with e | e; (· exact .inl e.symm); (· exact .inr (by rw [e]; rfl))); have hT8 : BRv rp gs N w7 := e1; have hT9 : BRv rp gs N (w7.setCell ⟨gs, i * 3 + 2, none⟩ (.slice (some ⟨g7, 0, none⟩) (n + 1) c7)) := e4.c0; have HR8 : Hid _ := e4; have HC8 : Hid _ := e5; have HG9 : Hid _ := hg9; have HB15 : Hid _ := hb15; have HWH : Hid _ := hwh7; clear e1 e4 e5 ho7 hg7 hwh7 hby9)
        refine hK.out _ _ (by first | exact hT0 | assumption | exact hT6 _ | exact hT7 _) ?_
        clear hK K
        intro hHeld2
        clear hHeld
        have hHeld := hHeld2
        clear hHeld2
        try simp only [Act.put, List.setIfInBounds_toArray, List.set_cons_zero, List.set_cons_succ]
        refine take_at (i := 17) 36 (v := ?_) rfl rfl (by kernel_rfl) (by kernel_rfl) (by kernel_rfl) (fun _ _ _ h => h) (by rfl) ?_ hHeld ?_
        rotate_left
        · (intro w hSw; (try dsimp only at hSw); go_simp; try with_reducible rfl)
        simp only [Act.put, List.setIfInBounds_toArray, List.set_cons_zero, List.set_cons_succ]
        refine take_at (i := 18) 37 (v := ?_) rfl rfl (by kernel_rfl) (by kernel_rfl) (by kernel_rfl) (fun _ _ _ h => h) (by rfl) ?_ hHeld ?_
        rotate_left
        · (intro w hSw; (try dsimp only at hSw); go_simp; try with_reducible rfl)
        simp only [Act.put, List.setIfInBounds_toArray, List.set_cons_zero, List.set_cons_succ]
        refine run_at (i := 19) rfl (by kernel_rfl) (by rfl) (fun K hK => ?_)
        simp only [List.getElem_toArray, List.getElem_cons_zero, List.getElem_cons_succ]
        go_simp
        go_wp2_with fail
        refine hK.out _ _ (by first | exact hT0 | assumption | exact hT6 _ | exact hT7 _) ?_
        clear hK K
        intro hHeld2
        clear hHeld
        have hHeld := hHeld2
        clear hHeld2
        try simp only [Act.put, List.setIfInBounds_toArray, List.set_cons_zero, List.set_cons_succ]
        refine wpAnyH_done (by kernel_rfl) ?_ _
        refine NoPanic.normal ?_
    all_goals
      go_wp2
      go_ret
      rw [HWC.out]
      refine ⟨rfl, _, _, _, HR8.out, ?_, fun b hb => ?_⟩
      · have hc1 : Chg Fp w w1 := Chg.of_grown HG1.out (fun b hb => by cases hb; exact H.out.frp)
        refine hc1.trans (HC8.out.mono (G := Fp) (fun b hb => ?_)) (fun b hb => .inl hb)
        rcases hb with e | e
        · rw [e]; exact H.out.fgs
        · exact H.out.fvv i hi b e
      · have hsz := HG1.out.size
        have hsz5 := HB15.out.size
        rcases hb with hb | hb | hb
        · exact .inl hb
        · exact .inr (by have := HG9.out; omega)
        · simp [Value.ownBlock] at hb
          rcases HWH.out with e | e
          · exact .inl (H.out.fvv i hi b (by rw [HVV.out, ← hb]; exact e))
          · exact .inr (by rw [← hb, e]; simp; omega)
end Go.Proofs.Ytgdkiejlggiakac
