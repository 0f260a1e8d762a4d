import Derived.Test.YtdpkommmkcmifaaSmall
import Derived.Test.YtdpkommmkcmifaaPut
import Derived.Test.YtdpkommmkcmifaaHop1
import Derived.Test.YtdpkommmkcmifaaFit
import Derived.Test.YtdpkommmkcmifaaOpenU
import Derived.Deep.CutRange
namespace Go.Proofs.Ytdpkommmkcmifaa
set_option linter.unusedVariables false
set_option linter.unusedSimpArgs false
open Go.RowKit
theorem cells5T {W : World} {g : Nat} {t : TypeId} {v0 v1 v2 v3 v4 : Value} (h : W.heap[g]? = some (.cells #[v0, v1, v2, v3, v4] t (0, 0))) : W.cell? ⟨g, 0, none⟩ = some v0 ∧ W.cell? ⟨g, 1, none⟩ = some v1 ∧ W.cell? ⟨g, 2, none⟩ = some v2 ∧ W.cell? ⟨g, 3, none⟩ = some v3 ∧ W.cell? ⟨g, 4, none⟩ = some v4 :=
  ⟨by rw [cell_of_row W g 0 _ t _ h]; rfl, by rw [cell_of_row W g 1 _ t _ h]; rfl, by rw [cell_of_row W g 2 _ t _ h]; rfl, by rw [cell_of_row W g 3 _ t _ h]; rfl, by rw [cell_of_row W g 4 _ t _ h]; rfl⟩
theorem box12t {W : World} {g R : Nat} {t : TypeId} {v0 v1 v2 v3 v4 v5 v6 v7 v8 v9 v10 v11 : Value} (h : W.heap[g]? = some (.cells #[v0, v1, v2, v3, v4, v5, v6, v7, v8, v9, v10, v11] t (0, 0))) (hne : g ≠ R) : ∀ i v, #[v0, v1, v2, v3, v4, v5, v6, v7, v8, v9, v10, v11][i]? = some v → ∀ u, W.grownBy u (some R) → u.cell? ⟨g, i, none⟩ = some v := by
  intro i v hi u hu
  rw [cell_of_row u g i _ t _ ((hu.block g (Array.getElem?_eq_some_iff.1 h).1 (by simp; omega)).trans h)]
  exact hi
set_option maxRecDepth 20000 in
set_option maxHeartbeats 3200000 in
theorem travels_walk (f : Frm) (fa : Option Addr) (fc : Nat) (fr tt : Nat) (nw : Bool) (ya : Option Addr) (yc : Nat) (ys : List Nat) (w : World) (hR : Rd w fa f.d ∧ f.d.length ≤ fc ∧ (fa = none → fc = 0) ∧ f.ok) (hfr : fr < 18446744073709551616) (htt : tt < 18446744073709551616) (hy : RdW w ya ys) (hyc : ys.length ≤ yc) (hyn : ya = none → yc = 0) (hyl : ys.length ≤ 17592186044416) :
    Calls Try.prog 7 #[frmW f fa fc, .int .u64 (fr : Nat), .int .u64 (tt : Nat), .bool nw, .slice ya ys.length yc] w fun e w' => e = .returned (.bool true) ∧ Below w.heap.size w w' := by
  obtain ⟨hd, hlc, hn, hok⟩ := hR
  have HN : Hid (fa = none → fc = 0) := hn
  clear hn
  unfold frmW
  obtain ⟨W0, hW0⟩ : ∃ W0 : World, W0 = w.alloc (.cells #[.int .i64 f.st, .int .u64 (f.tm : Nat), .int .u64 (f.sq : Nat), .int .u64 (f.lf : Nat), .slice fa f.d.length fc] 47) := ⟨_, rfl⟩
  have hF : W0.heap[w.heap.size]? = some (.cells #[.int .i64 f.st, .int .u64 (f.tm : Nat), .int .u64 (f.sq : Nat), .int .u64 (f.lf : Nat), .slice fa f.d.length fc] 47 (0, 0)) := by rw [hW0]; exact heap_alloc_new w _
  have hbW0 : Below w.heap.size w W0 := by rw [hW0]; exact al (Below.refl _ _) _
  go_enter Try.func7, Try.ntmps7
  go_wp2_with fail
  rw [← hW0]
  clear hW0
  refine (small_t W0).mono ?_
  rintro e w1 ⟨rfl, hb1⟩
  have hbw1 := below_next hbW0 hb1
  have hF1 := box_on hF hb1
  obtain ⟨i0, i1, i2, i3, i4⟩ := cells5T hF1
  go_wp2_with fail
  clear i0 i1 i2 i3 i4
  refine (wrap_any f.st f.tm f.sq f.lf f.d fa fc fr tt nw w1 (hd.below hbw1) HN.out hok.st ⟨hok.tm, hok.sq, hok.lf, hfr, htt⟩ hok.d).mono ?_
  rintro e w2 ⟨⟨b, ba, bc, pa, pc, n2, rfl, hw2, hrow2, hown2, hok2⟩, hb2⟩
  have HW2 : Hid (wrapS f.st f.tm f.sq f.lf f.d fr tt nw = (b, n2)) := hw2
  have HR2 : Hid (BunR w2 b ba bc pa pc) := bunR_of hrow2 hown2 hok2
  clear hw2 hrow2 hown2 hok2
  unfold bunV
  obtain ⟨W2, hW2⟩ : ∃ W2 : World, W2 = w2.alloc (.cells #[.int .u64 b.fl, .int .u64 b.e0, .int .u64 b.e1, .int .u64 b.e2, .int .u64 b.e3, .int .u64 b.e4, .int .u64 b.e5, .int .u64 b.tm, .int .u64 b.sq, .int .u64 b.lf, .slice ba b.bl.length bc, .slice pa b.py.length pc] 34) := ⟨_, rfl⟩
  have hB : W2.heap[w2.heap.size]? = some (.cells #[.int .u64 b.fl, .int .u64 b.e0, .int .u64 b.e1, .int .u64 b.e2, .int .u64 b.e3, .int .u64 b.e4, .int .u64 b.e5, .int .u64 b.tm, .int .u64 b.sq, .int .u64 b.lf, .slice ba b.bl.length bc, .slice pa b.py.length pc] 34 (0, 0)) := by rw [hW2]; exact heap_alloc_new w2 _
  have hbW2 : Below w2.heap.size w2 W2 := by rw [hW2]; exact al (Below.refl _ _) _
  have hbw2 := below_next hbw1 (below_next hb2 hbW2)
  have hF2 := box_on hF1 (below_next hb2 hbW2)
  obtain ⟨i0, i1, i2, i3, i4⟩ := cells5T hF2
  rw [hW2] at i0 i1 i2 i3 i4
  go_wp2_with fail
  rw [← hW2]
  clear i0 i1 i2 i3 i4
  refine (fits_d f.st f.tm f.sq f.lf f.d fa fc W2).mono ?_
  rintro e w3 ⟨rfl, hb3⟩
  have hbw3 := below_next hbw2 hb3
  have hF3 := box_on hF2 hb3
  have hB3 := box_on hB hb3
  have hR3 := HR2.out.below (below_next hbW2 hb3)
  obtain ⟨g, hg⟩ : ∃ g, g = w2.heap.size := ⟨_, rfl⟩
  rw [← hg] at hB hB3 ⊢
  have hgw : w.heap.size < g := by rw [hg]; have := (Array.getElem?_eq_some_iff.1 hF1).1; have := hb2.size; omega
  clear hW2 hB hg
  by_cases hfit : fitF f.st f.tm f.sq f.lf
  rotate_left
  · have h2 := HW2.out
    unfold wrapS at h2
    rw [if_pos (by intro h; exact hfit h.1)] at h2
    simp only [Prod.mk.injEq] at h2
    obtain ⟨-, rfl⟩ := h2
    rw [decide_eq_false hfit]
    go_wp2_with fail
    go_ret
    exact ⟨rfl, hbw3⟩
  rw [decide_eq_true hfit]
  by_cases h1 : fr ≤ 281474976710655
  rotate_left
  · have h2 := HW2.out
    unfold wrapS at h2
    rw [if_pos (by intro h; exact h1 h.2.1)] at h2
    have dI : decide ((fr : Int) ≤ 281474976710655) = false := decide_eq_false (by omega)
    simp only [Prod.mk.injEq] at h2
    obtain ⟨-, rfl⟩ := h2
    go_wp2_with fail
    go_ret
    exact ⟨rfl, hbw3⟩
  have d1 : decide ((fr : Int) ≤ 281474976710655) = true := decide_eq_true (by omega)
  by_cases h2 : tt ≤ 281474976710655
  rotate_left
  · have h3 := HW2.out
    unfold wrapS at h3
    rw [if_pos (by intro h; exact h2 h.2.2)] at h3
    have dI : decide ((tt : Int) ≤ 281474976710655) = false := decide_eq_false (by omega)
    simp only [Prod.mk.injEq] at h3
    obtain ⟨-, rfl⟩ := h3
    go_wp2_with fail
    go_ret
    exact ⟨rfl, hbw3⟩
  have d2 : decide ((tt : Int) ≤ 281474976710655) = true := decide_eq_true (by omega)
  obtain ⟨i0, i1, i2, i3, i4⟩ := cells5T hF3
  by_cases h5 : f.d.length ≤ 512
  rotate_left
  · have h3 := HW2.out
    unfold wrapS at h3
    rw [if_neg (by intro h; exact h ⟨hfit, h1, h2⟩), if_pos (by omega)] at h3
    simp only [Prod.mk.injEq] at h3
    obtain ⟨-, rfl⟩ := h3
    go_wp2_with fail
    go_ret
    exact ⟨rfl, hbw3⟩
  have h3 := HW2.out
  unfold wrapS at h3
  rw [if_neg (by intro h; exact h ⟨hfit, h1, h2⟩), if_neg (by omega)] at h3
  simp only [Prod.mk.injEq] at h3
  obtain ⟨hb, rfl⟩ := h3
  have HT : Hid (Tr (if nw = true then 7 else 5) tt f.st.toNat fr f.tm f.sq f.lf f.d b) := ⟨[8, 0], [0], hb.symm, tr_wr hfit h1 h2 h5⟩
  clear hb HW2 HR2
  obtain ⟨x0, x1, x2, x3, x4, x5, x6, x7, x8, x9, x10, x11, -⟩ := cells12 hB3
  go_wp2_with fail
  clear x0 x1 x2 x3 x4 x5 x6 x7 x8 x9 x10 x11 i0 i1 i2 i3 i4
  refine (valid_any b ba bc pa pc w3 hR3).mono ?_
  rintro e w4 ⟨⟨n4, rfl, hv4⟩, hb4⟩
  obtain rfl : n4 = 0 := hv4.same HT.out.valid
  clear hv4
  have hbw4 := below_next hbw3 hb4
  have hB4 := box_on hB3 hb4
  have hF4 := box_on hF3 hb4
  have hR4 := hR3.below hb4
  have hy4 := hy.below hbw4
  have hd4 := hd.below hbw4
  go_wp2_with fail
  obtain ⟨fl, hfl⟩ : ∃ fl : Nat, fl = if nw = true then 7 else 5 := ⟨_, rfl⟩
  rw [← hfl] at HT
  have HFL : Hid (fl = if nw = true then 7 else 5) := hfl
  clear hfl d1 d2
  go_loopw [14] (fun i wr => ∃ (k : Nat) (b : Bun) (ba : Option Addr) (bc : Nat) (pa : Option Addr) (pc : Nat), k ≤ ys.length ∧ i = .int .i64 k ∧ Hid (Tr fl tt f.st.toNat fr f.tm f.sq f.lf f.d b) ∧ wr.heap[g]? = some (.cells #[.int .u64 b.fl, .int .u64 b.e0, .int .u64 b.e1, .int .u64 b.e2, .int .u64 b.e3, .int .u64 b.e4, .int .u64 b.e5, .int .u64 b.tm, .int .u64 b.sq, .int .u64 b.lf, .slice ba b.bl.length bc, .slice pa b.py.length pc] 34 (0, 0)) ∧ Hid (BunR wr b ba bc pa pc) ∧ Hid (w4.grownBy wr (some g))) (fun i _ => ys.length - (intOf i).toNat)
  case atStart => exact ⟨0, b, ba, bc, pa, pc, Nat.zero_le _, rfl, HT, hB4, hR4, World.grownBy.refl _ _⟩
  case round =>
    clear hR4 hB4 HT hR3 hB3 hy4 hd4
    obtain ⟨k, b, ba, bc, pa, pc, hk, rfl, HT, hB, HR, HG⟩ := hrel
    have hFr := gr_box HG.out (by omega) hF4
    have hbwr : Below w.heap.size w wr := hbw4.grown HG.out hbw4.size (fun j hj => by cases hj; omega)
    by_cases hlt : k < ys.length
    · obtain ⟨x0, x1, x2, x3, x4, x5, x6, x7, x8, x9, x10, x11, -⟩ := cells12 hB
      go_wp2_with fail
      clear x0 x1 x2 x3 x4 x5 x6 x7 x8 x9 x10 x11
      refine (hop_any b ba bc pa pc wr HR.out).mono ?_
      rintro e u1 ⟨⟨o, a1, c1, p1, d1, n1, rfl, ht1, hR1, hf1⟩, hb1⟩
      have HT1 : Hid (TurnIs b 10 hopTurn o n1) := ht1
      have HR1 : Hid (BunR u1 o a1 c1 p1 d1) := hR1
      have HF1 : Hid (∀ q, a1 = some q → wr.heap.size ≤ q.block) := hf1
      clear ht1 hR1 hf1
      unfold bunV
      obtain ⟨U1, hU1⟩ : ∃ U1 : World, U1 = u1.alloc (.cells #[.int .u64 o.fl, .int .u64 o.e0, .int .u64 o.e1, .int .u64 o.e2, .int .u64 o.e3, .int .u64 o.e4, .int .u64 o.e5, .int .u64 o.tm, .int .u64 o.sq, .int .u64 o.lf, .slice a1 o.bl.length c1, .slice p1 o.py.length d1] 34) := ⟨_, rfl⟩
      have hC : U1.heap[u1.heap.size]? = some (.cells #[.int .u64 o.fl, .int .u64 o.e0, .int .u64 o.e1, .int .u64 o.e2, .int .u64 o.e3, .int .u64 o.e4, .int .u64 o.e5, .int .u64 o.tm, .int .u64 o.sq, .int .u64 o.lf, .slice a1 o.bl.length c1, .slice p1 o.py.length d1] 34 (0, 0)) := by rw [hU1]; exact heap_alloc_new u1 _
      have hbU1 : Below u1.heap.size u1 U1 := by rw [hU1]; exact al (Below.refl _ _) _
      have hbU1' := below_next hb1 hbU1
      have hbwU := below_next hbwr hbU1'
      have hBU1 := box_on hB hbU1'
      have hgl : g < wr.heap.size := (Array.getElem?_eq_some_iff.1 hB).1
      obtain ⟨yb, yo, rfl, hyq⟩ := hy (by omega)
      obtain ⟨hyk0, hyl2⟩ := hyq k hlt
      clear hyq
      obtain ⟨y, hyy⟩ : ∃ y, y = ys[k] := ⟨_, rfl⟩
      rw [← hyy] at hyk0 hyl2
      clear hyy
      have hyb : yb < w.heap.size := World.block_lt_of_cell? w _ hyk0
      have hyk := (hbwU.cell (p := ⟨yb, yo + k, none⟩) hyb).trans hyk0
      have HYK : Hid (U1.cell? ⟨yb, yo + k, none⟩ = some (.int .u64 (y : Nat))) := hyk
      have HGU1 : Hid (w4.grownBy U1 (some g)) := gr_below HG.out hbU1'
      have hgb := hb1.size
      have hw4r := HG.out.size
      clear hyk0
      obtain ⟨cb, hcb⟩ : ∃ cb, cb = u1.heap.size := ⟨_, rfl⟩
      by_cases hz : 0 < y
      · have hzI : (0 : Int) < (y : Int) := by omega
        rw [hU1] at hyk
        go_wp2_with fail
        rw [← hU1, ← hcb]
        rw [← hcb] at hC
        have hgc : g ≠ cb := by have := hb1.size; omega
        have HCB : Hid (cb = u1.heap.size) := hcb
        clear hyk hU1 hcb
        have hS0 : U1.grownBy U1 (some cb) := World.grownBy.refl _ _
        have HRU1 : Hid (BunR U1 b ba bc pa pc) := HR.out.below hbU1'
        have gy : ∀ u, U1.grownBy u (some cb) → u.cell? ⟨yb, yo + k, none⟩ = some (.int .u64 (y : Nat)) := fun u hu => hu.cell HYK.out (by have := HCB.out; simp; omega)
        go_cut [16] from 63 to 136 (fun nv wx => ∃ o3 a3 c3 p3 d3 n3, nv = .int .i64 n3 ∧ Hid (TurnIs b 7 (ageTurn y) o3 n3) ∧ wx.heap[cb]? = some (.cells #[.int .u64 o3.fl, .int .u64 o3.e0, .int .u64 o3.e1, .int .u64 o3.e2, .int .u64 o3.e3, .int .u64 o3.e4, .int .u64 o3.e5, .int .u64 o3.tm, .int .u64 o3.sq, .int .u64 o3.lf, .slice a3 o3.bl.length c3, .slice p3 o3.py.length d3] 34 (0, 0)) ∧ Hid (BunR wx o3 a3 c3 p3 d3) ∧ Hid (∀ q, a3 = some q → U1.heap.size ≤ q.block) ∧ Hid (U1.grownBy wx (some cb)))
        case first =>
          have hall := box12t hBU1 hgc
          have g0 := hall 0 _ rfl
          have g1 := hall 1 _ rfl
          have g2 := hall 2 _ rfl
          have g3 := hall 3 _ rfl
          have g4 := hall 4 _ rfl
          have g5 := hall 5 _ rfl
          have g6 := hall 6 _ rfl
          have g7 := hall 7 _ rfl
          have g8 := hall 8 _ rfl
          have g9 := hall 9 _ rfl
          have g10 := hall 10 _ rfl
          have g11 := hall 11 _ rfl
          clear hall
          refine wp_region_noPanic ?_
          refine wp_region_held_drew (S := (fun u => U1.grownBy u (some cb))) (by kernel_rfl) (by with_reducible first | assumption | exact gr_below (by assumption) (Below.refl _ _).drew) (fun hHeld => ?_)
          refine take_at (i := 0) 81 (v := ?_) rfl rfl (by kernel_rfl) (by kernel_rfl) (by kernel_rfl) (fun _ _ _ h => h) (by rfl) ?_ hHeld ?_
          rotate_left
          · (intro w hSw; (try dsimp only at hSw); go_simp; try with_reducible rfl)
          simp only [Act.put, List.setIfInBounds_toArray, List.set_cons_zero, List.set_cons_succ]
          refine take_at (i := 1) 82 (v := ?_) rfl rfl (by kernel_rfl) (by kernel_rfl) (by kernel_rfl) (fun _ _ _ h => h) (by rfl) ?_ hHeld ?_
          rotate_left
          · (intro w hSw; (try dsimp only at hSw); go_simp; try with_reducible rfl)
          simp only [Act.put, List.setIfInBounds_toArray, List.set_cons_zero, List.set_cons_succ]
          refine take_at (i := 2) 83 (v := ?_) rfl rfl (by kernel_rfl) (by kernel_rfl) (by kernel_rfl) (fun _ _ _ h => h) (by rfl) ?_ hHeld ?_
          rotate_left
          · (intro w hSw; (try dsimp only at hSw); go_simp; try with_reducible rfl)
          simp only [Act.put, List.setIfInBounds_toArray, List.set_cons_zero, List.set_cons_succ]
          refine take_at (i := 3) 84 (v := ?_) rfl rfl (by kernel_rfl) (by kernel_rfl) (by kernel_rfl) (fun _ _ _ h => h) (by rfl) ?_ hHeld ?_
          rotate_left
          · (intro w hSw; (try dsimp only at hSw); go_simp; try with_reducible rfl)
          simp only [Act.put, List.setIfInBounds_toArray, List.set_cons_zero, List.set_cons_succ]
          refine take_at (i := 4) 85 (v := ?_) rfl rfl (by kernel_rfl) (by kernel_rfl) (by kernel_rfl) (fun _ _ _ h => h) (by rfl) ?_ hHeld ?_
          rotate_left
          · (intro w hSw; (try dsimp only at hSw); go_simp; try with_reducible rfl)
          simp only [Act.put, List.setIfInBounds_toArray, List.set_cons_zero, List.set_cons_succ]
          refine take_at (i := 5) 86 (v := ?_) rfl rfl (by kernel_rfl) (by kernel_rfl) (by kernel_rfl) (fun _ _ _ h => h) (by rfl) ?_ hHeld ?_
          rotate_left
          · (intro w hSw; (try dsimp only at hSw); go_simp; try with_reducible rfl)
          simp only [Act.put, List.setIfInBounds_toArray, List.set_cons_zero, List.set_cons_succ]
          refine run_at (i := 6) rfl (by kernel_rfl) (by rfl) (fun K hK => ?_)
          simp only [List.getElem_toArray, List.getElem_cons_zero, List.getElem_cons_succ]
          go_simp
          first | (go_at_call 26; refine (aged_any b ba bc pa pc y _ (HRU1.out.below (by first | exact (Below.refl _ _).drew | exact Below.refl _ _)) hyl2).mono ?_; rintro e u3 ⟨⟨o3, a3, c3, p3, d3, n3, rfl, ht3, hR3, hf3⟩, hb3⟩; have hb13 : Below U1.heap.size U1 u3 := below_next (B := U1) (by first | exact (Below.refl _ _).drew | exact Below.refl _ _) hb3; have hS3 : U1.grownBy u3 (some cb) := gr_below (World.grownBy.refl _ _) hb13; have hC3 := box_on hC hb13; obtain ⟨r0, r1, r2, r3, r4, r5, r6, r7, r8, r9, r10, r11, s0, s1, s2, s3, s4, s5, s6, s7, s8, s9, s10, s11⟩ := cells12 hC3; have HT3 : Hid (TurnIs b 7 (ageTurn y) o3 n3) := ht3; have HR3 : Hid (BunR u3 o3 a3 c3 p3 d3) := hR3; have HF3 : Hid (∀ q, a3 = some q → U1.heap.size ≤ q.block) := hf3; unfold bunV; have hS4 : U1.grownBy ((((((((((((u3.setCell ⟨cb, 0, none⟩ (.int .u64 o3.fl)).setCell ⟨cb, 1, none⟩ (.int .u64 o3.e0)).setCell ⟨cb, 2, none⟩ (.int .u64 o3.e1)).setCell ⟨cb, 3, none⟩ (.int .u64 o3.e2)).setCell ⟨cb, 4, none⟩ (.int .u64 o3.e3)).setCell ⟨cb, 5, none⟩ (.int .u64 o3.e4)).setCell ⟨cb, 6, none⟩ (.int .u64 o3.e5)).setCell ⟨cb, 7, none⟩ (.int .u64 o3.tm)).setCell ⟨cb, 8, none⟩ (.int .u64 o3.sq)).setCell ⟨cb, 9, none⟩ (.int .u64 o3.lf)).setCell ⟨cb, 10, none⟩ (.slice a3 o3.bl.length c3)).setCell ⟨cb, 11, none⟩ (.slice p3 o3.py.length d3)) (some cb) := World.grownBy.trans' hS3 gr_set12; have HC3 : Hid _ := hC3; clear ht3 hR3 hf3 hC3)
          go_wp2_with fail
          refine hK.out _ _ (by with_reducible first | assumption | exact gr_below (by assumption) (Below.refl _ _).drew) ?_
          clear hK K
          intro hHeld2
          clear hHeld
          have hHeld := hHeld2
          clear hHeld2
          try simp only [Act.put, List.setIfInBounds_toArray, List.set_cons_zero, List.set_cons_succ]
          refine take_at (i := 7) 80 (v := ?_) rfl rfl (by kernel_rfl) (by kernel_rfl) (by kernel_rfl) (fun _ _ _ h => h) (by rfl) ?_ hHeld ?_
          rotate_left
          · (intro w hSw; (try dsimp only at hSw); go_simp; try with_reducible rfl)
          simp only [Act.put, List.setIfInBounds_toArray, List.set_cons_zero, List.set_cons_succ]
          refine take_at (i := 8) 88 (v := ?_) rfl rfl (by kernel_rfl) (by kernel_rfl) (by kernel_rfl) (fun _ _ _ h => h) (by rfl) ?_ hHeld ?_
          rotate_left
          · (intro w hSw; (try dsimp only at hSw); go_simp; try with_reducible rfl)
          simp only [Act.put, List.setIfInBounds_toArray, List.set_cons_zero, List.set_cons_succ]
          refine take_at (i := 9) 89 (v := ?_) rfl rfl (by kernel_rfl) (by kernel_rfl) (by kernel_rfl) (fun _ _ _ h => h) (by rfl) ?_ hHeld ?_
          rotate_left
          · (intro w hSw; (try dsimp only at hSw); go_simp; try with_reducible rfl)
          simp only [Act.put, List.setIfInBounds_toArray, List.set_cons_zero, List.set_cons_succ]
          refine run_at (i := 10) rfl (by kernel_rfl) (by rfl) (fun K hK => ?_)
          simp only [List.getElem_toArray, List.getElem_cons_zero, List.getElem_cons_succ]
          go_simp
          go_wp2_with fail
          refine hK.out _ _ (by with_reducible first | assumption | exact gr_below (by assumption) (Below.refl _ _).drew) ?_
          clear hK K
          intro hHeld2
          clear hHeld
          have hHeld := hHeld2
          clear hHeld2
          try simp only [Act.put, List.setIfInBounds_toArray, List.set_cons_zero, List.set_cons_succ]
          refine take_at (i := 11) 16 (v := ?_) rfl rfl (by kernel_rfl) (by kernel_rfl) (by kernel_rfl) (fun _ _ _ h => h) (by rfl) ?_ hHeld ?_
          rotate_left
          · (intro w hSw; (try dsimp only at hSw); go_simp; try with_reducible rfl)
          simp only [Act.put, List.setIfInBounds_toArray, List.set_cons_zero, List.set_cons_succ]
          refine wpAnyH_done (by kernel_rfl) ?_ _
          refine NoPanic.normal ?_
          clear g0 g1 g2 g3 g4 g5 g6 g7 g8 g9 g10 g11 gy
          go_wp2_with fail
          go_meet
          exact ⟨o3, a3, c3, p3, d3, n3, rfl, HT3, heap_set12 HC3.out, HR3.out.far gr_set12 (fun q hq => by have := HF3.out q hq; have := (Array.getElem?_eq_some_iff.1 hC).1; omega) (no8 HC3.out), HF3, hS4⟩
        obtain ⟨o3, a3, c3, p3, d3, n3, rfl, HT3, hC3, HR3, HF3, HG3⟩ := hcut
        have hBc := gr_box HG3.out hgc hBU1
        have hcc : cb = u1.heap.size := HCB.out
        have HGc : Hid (w4.grownBy wc (some g)) := grown_add HGU1.out HG3.out (.inr (fun j hj => by cases hj; omega))
        have hblt := HR.out.blt HT.out.pos
        have HRc : Hid (BunR wc b ba bc pa pc) := HRU1.out.far HG3.out (fun q hq => by have := hblt q hq; omega) (no8 hC)
        have hU1s := (Array.getElem?_eq_some_iff.1 hC).1
        have HHC : Hid (cb = u1.heap.size) := hcc
        clear hcc hS0 hblt
        rcases HT.out.age HT3.out with h6 | ⟨h0, hT3⟩
        · subst h6
          have HTU : Hid (Tr fl tt f.st.toNat fr f.tm f.sq f.lf f.d b) := HT.out
          have HRU : Hid (BunR wc b ba bc pa pc) := HRc.out
          have HGU : Hid (w4.grownBy wc (some g)) := HGc.out
          have hBU := hBc
          obtain ⟨x0, x1, x2, x3, x4, x5, x6, x7, x8, x9, x10, x11, -⟩ := cells12 hBc
          go_wp2_with fail
          clear x0 x1 x2 x3 x4 x5 x6 x7 x8 x9 x10 x11
          refine (encode_any b ba bc pa pc wc HRU.out).mono ?_
          rintro e t1 ⟨⟨v3, n3, xs, rfl, hv3, hown3, hxs⟩, hbt1⟩
          obtain rfl : n3 = 0 := hv3.same HTU.out.valid
          rw [if_pos rfl] at hxs
          obtain ⟨a3, c3, rfl, -, -, hn3, hr3, -⟩ := hown3.val
          have HX : Hid (xs = encB b) := hxs
          have HN3 : Hid (a3 = none → c3 = 0) := hn3
          clear hxs hn3 hv3 hown3
          go_wp2_with fail
          refine (decode_any a3 c3 xs t1 hr3 HN3.out (by rw [HX.out]; have := HTU.out.len; omega)).mono ?_
          rintro e t2 ⟨⟨o2, a4, c4, p4, d4, n4, rfl, hd4, hrow4, hown4, hok4⟩, hbt2⟩
          rw [HX.out, HTU.out.dec] at hd4
          simp only [Prod.mk.injEq] at hd4
          obtain ⟨rfl, rfl⟩ := hd4
          have HR4 : Hid (BunR t2 b a4 c4 p4 d4) := bunR_of hrow4 hown4 hok4
          have HA4 : Hid (∀ q, a4 = some q → t1.heap.size ≤ q.block) := fun q hq => (hrow4.rd.2.2.2 q hq).1
          clear hrow4 hown4 hok4 hr3
          unfold bunV
          obtain ⟨T2, hT2⟩ : ∃ T2 : World, T2 = t2.alloc (.cells #[.int .u64 b.fl, .int .u64 b.e0, .int .u64 b.e1, .int .u64 b.e2, .int .u64 b.e3, .int .u64 b.e4, .int .u64 b.e5, .int .u64 b.tm, .int .u64 b.sq, .int .u64 b.lf, .slice a4 b.bl.length c4, .slice p4 b.py.length d4] 34) := ⟨_, rfl⟩
          have hD : T2.heap[t2.heap.size]? = some (.cells #[.int .u64 b.fl, .int .u64 b.e0, .int .u64 b.e1, .int .u64 b.e2, .int .u64 b.e3, .int .u64 b.e4, .int .u64 b.e5, .int .u64 b.tm, .int .u64 b.sq, .int .u64 b.lf, .slice a4 b.bl.length c4, .slice p4 b.py.length d4] 34 (0, 0)) := by rw [hT2]; exact heap_alloc_new t2 _
          have hbT2 : Below t2.heap.size t2 T2 := by rw [hT2]; exact al (Below.refl _ _) _
          have hbT2' := below_next hbt1 (below_next hbt2 hbT2)
          obtain ⟨x0, x1, x2, x3, x4, x5, x6, x7, x8, x9, x10, x11, -⟩ := cells12 hD
          rw [hT2] at x0 x1 x2 x3 x4 x5 x6 x7 x8 x9 x10 x11
          go_wp2_with fail
          rw [← hT2]
          clear x0 x1 x2 x3 x4 x5 x6 x7 x8 x9 x10 x11 hT2
          refine (open_any b a4 c4 p4 d4 T2 (HR4.out.below hbT2)).mono ?_
          rintro e t3 ⟨⟨st, tm, sq, lf, a5, c5, zs, fr', nw', n5, rfl, ho5, hr5⟩, hbt3⟩
          obtain ⟨rfl, rfl, rfl, rfl, rfl, rfl, rfl, rfl⟩ := HTU.out.opensF HFL.out hfit.1 ho5
          clear ho5
          obtain ⟨T3, hT3⟩ : ∃ T3 : World, T3 = t3.alloc (.cells #[.int .i64 f.st, .int .u64 (f.tm : Nat), .int .u64 (f.sq : Nat), .int .u64 (f.lf : Nat), .slice a5 f.d.length c5] 47) := ⟨_, rfl⟩
          have hH : T3.heap[t3.heap.size]? = some (.cells #[.int .i64 f.st, .int .u64 (f.tm : Nat), .int .u64 (f.sq : Nat), .int .u64 (f.lf : Nat), .slice a5 f.d.length c5] 47 (0, 0)) := by rw [hT3]; exact heap_alloc_new t3 _
          have hbT3 : Below t3.heap.size t3 T3 := by rw [hT3]; exact al (Below.refl _ _) _
          have hbT3' := below_next hbT2' (below_next hbt3 hbT3)
          have hFt := box_on (gr_box HGU.out (by omega) hF4) hbT3'
          obtain ⟨i0, i1, i2, i3, i4⟩ := cells5S hFt
          obtain ⟨j0, j1, j2, j3, j4⟩ := cells5S hH
          rw [hT3] at i0 i1 i2 i3 i4 j0 j1 j2 j3 j4
          go_wp2_with fail
          rw [← hT3]
          clear i0 i1 i2 i3 i4 j0 j1 j2 j3 j4 hT3
          have hbUw : Below w.heap.size w wc := hbw4.grown HGU.out hbw4.size (fun j hj => by cases hj; omega)
          refine (isFrame_t f.st f.tm f.sq f.lf f.d a5 fa c5 fc T3 (hr5.below hbT3) (hd.below (below_next hbUw hbT3'))).mono ?_
          rintro e t4 ⟨rfl, hbt4⟩
          have hDt4 := box_on hD (below_next (below_next hbt3 hbT3) hbt4)
          have hBt4 := box_on hBU (below_next hbT3' hbt4)
          have HRt4 : Hid (BunR t4 b a4 c4 p4 d4) := HR4.out.below (below_next hbT2 (below_next (below_next hbt3 hbT3) hbt4))
          have HP4 := put12 hBt4 HRt4.out (fun q hq => by have h1 := HA4.out q hq; have h2 := (Array.getElem?_eq_some_iff.1 hBU).1; have h3 := hbt1.size; omega)
          have HG4 : Hid (w4.grownBy t4 (some g)) := gr_below HGU.out (below_next hbT3' hbt4)
          have HQ4 : Hid _ := HP4
          clear HP4
          obtain ⟨x0, x1, x2, x3, x4, x5, x6, x7, x8, x9, x10, x11, -⟩ := cells12 hDt4
          obtain ⟨y0, y1, y2, y3, y4, y5, y6, y7, y8, y9, y10, y11, z0, z1, z2, z3, z4, z5, z6, z7, z8, z9, z10, z11⟩ := cells12 hBt4
          go_wp2
          go_roundw
          case rel => exact ⟨k + 1, b, a4, c4, p4, d4, by omega, by go_num, HTU, HQ4.out.1, HQ4.out.2.1, grown_add HG4.out HQ4.out.2.2 (.inl rfl)⟩
          case measure => simp [intOf]; omega
        · subst h0
          obtain ⟨x0, x1, x2, x3, x4, x5, x6, x7, x8, x9, x10, x11, -⟩ := cells12 hC3
          obtain ⟨y0, y1, y2, y3, y4, y5, y6, y7, y8, y9, y10, y11, z0, z1, z2, z3, z4, z5, z6, z7, z8, z9, z10, z11⟩ := cells12 hBc
          obtain ⟨U, hU⟩ : ∃ U : World, U = ((((((((((((wc.setCell ⟨g, 0, none⟩ (.int .u64 o3.fl)).setCell ⟨g, 1, none⟩ (.int .u64 o3.e0)).setCell ⟨g, 2, none⟩ (.int .u64 o3.e1)).setCell ⟨g, 3, none⟩ (.int .u64 o3.e2)).setCell ⟨g, 4, none⟩ (.int .u64 o3.e3)).setCell ⟨g, 5, none⟩ (.int .u64 o3.e4)).setCell ⟨g, 6, none⟩ (.int .u64 o3.e5)).setCell ⟨g, 7, none⟩ (.int .u64 o3.tm)).setCell ⟨g, 8, none⟩ (.int .u64 o3.sq)).setCell ⟨g, 9, none⟩ (.int .u64 o3.lf)).setCell ⟨g, 10, none⟩ (.slice a3 o3.bl.length c3)).setCell ⟨g, 11, none⟩ (.slice p3 o3.py.length d3)) := ⟨_, rfl⟩
          have HP := put12 hBc HR3.out (fun q hq => by have := HF3.out q hq; have := HHC.out; omega)
          rw [← hU] at HP
          obtain ⟨hBU, hRU, hGU⟩ := HP
          have HTU : Hid (Tr fl tt f.st.toNat fr f.tm f.sq f.lf f.d o3) := hT3
          have HRU : Hid (BunR U o3 a3 c3 p3 d3) := hRU
          have HGU : Hid (w4.grownBy U (some g)) := grown_add HGc.out hGU (.inl rfl)
          clear hRU hGU hT3
          go_wp2_with fail
          rw [← hU]
          clear x0 x1 x2 x3 x4 x5 x6 x7 x8 x9 x10 x11 y0 y1 y2 y3 y4 y5 y6 y7 y8 y9 y10 y11 z0 z1 z2 z3 z4 z5 z6 z7 z8 z9 z10 z11 hU
          refine (encode_any o3 a3 c3 p3 d3 U HRU.out).mono ?_
          rintro e t1 ⟨⟨v3, n3, xs, rfl, hv3, hown3, hxs⟩, hbt1⟩
          obtain rfl : n3 = 0 := hv3.same HTU.out.valid
          rw [if_pos rfl] at hxs
          obtain ⟨a3, c3, rfl, -, -, hn3, hr3, -⟩ := hown3.val
          have HX : Hid (xs = encB o3) := hxs
          have HN3 : Hid (a3 = none → c3 = 0) := hn3
          clear hxs hn3 hv3 hown3
          go_wp2_with fail
          refine (decode_any a3 c3 xs t1 hr3 HN3.out (by rw [HX.out]; have := HTU.out.len; omega)).mono ?_
          rintro e t2 ⟨⟨o2, a4, c4, p4, d4, n4, rfl, hd4, hrow4, hown4, hok4⟩, hbt2⟩
          rw [HX.out, HTU.out.dec] at hd4
          simp only [Prod.mk.injEq] at hd4
          obtain ⟨rfl, rfl⟩ := hd4
          have HR4 : Hid (BunR t2 o3 a4 c4 p4 d4) := bunR_of hrow4 hown4 hok4
          have HA4 : Hid (∀ q, a4 = some q → t1.heap.size ≤ q.block) := fun q hq => (hrow4.rd.2.2.2 q hq).1
          clear hrow4 hown4 hok4 hr3
          unfold bunV
          obtain ⟨T2, hT2⟩ : ∃ T2 : World, T2 = t2.alloc (.cells #[.int .u64 o3.fl, .int .u64 o3.e0, .int .u64 o3.e1, .int .u64 o3.e2, .int .u64 o3.e3, .int .u64 o3.e4, .int .u64 o3.e5, .int .u64 o3.tm, .int .u64 o3.sq, .int .u64 o3.lf, .slice a4 o3.bl.length c4, .slice p4 o3.py.length d4] 34) := ⟨_, rfl⟩
          have hD : T2.heap[t2.heap.size]? = some (.cells #[.int .u64 o3.fl, .int .u64 o3.e0, .int .u64 o3.e1, .int .u64 o3.e2, .int .u64 o3.e3, .int .u64 o3.e4, .int .u64 o3.e5, .int .u64 o3.tm, .int .u64 o3.sq, .int .u64 o3.lf, .slice a4 o3.bl.length c4, .slice p4 o3.py.length d4] 34 (0, 0)) := by rw [hT2]; exact heap_alloc_new t2 _
          have hbT2 : Below t2.heap.size t2 T2 := by rw [hT2]; exact al (Below.refl _ _) _
          have hbT2' := below_next hbt1 (below_next hbt2 hbT2)
          obtain ⟨x0, x1, x2, x3, x4, x5, x6, x7, x8, x9, x10, x11, -⟩ := cells12 hD
          rw [hT2] at x0 x1 x2 x3 x4 x5 x6 x7 x8 x9 x10 x11
          go_wp2_with fail
          rw [← hT2]
          clear x0 x1 x2 x3 x4 x5 x6 x7 x8 x9 x10 x11 hT2
          refine (open_any o3 a4 c4 p4 d4 T2 (HR4.out.below hbT2)).mono ?_
          rintro e t3 ⟨⟨st, tm, sq, lf, a5, c5, zs, fr', nw', n5, rfl, ho5, hr5⟩, hbt3⟩
          obtain ⟨rfl, rfl, rfl, rfl, rfl, rfl, rfl, rfl⟩ := HTU.out.opensF HFL.out hfit.1 ho5
          clear ho5
          obtain ⟨T3, hT3⟩ : ∃ T3 : World, T3 = t3.alloc (.cells #[.int .i64 f.st, .int .u64 (f.tm : Nat), .int .u64 (f.sq : Nat), .int .u64 (f.lf : Nat), .slice a5 f.d.length c5] 47) := ⟨_, rfl⟩
          have hH : T3.heap[t3.heap.size]? = some (.cells #[.int .i64 f.st, .int .u64 (f.tm : Nat), .int .u64 (f.sq : Nat), .int .u64 (f.lf : Nat), .slice a5 f.d.length c5] 47 (0, 0)) := by rw [hT3]; exact heap_alloc_new t3 _
          have hbT3 : Below t3.heap.size t3 T3 := by rw [hT3]; exact al (Below.refl _ _) _
          have hbT3' := below_next hbT2' (below_next hbt3 hbT3)
          have hFt := box_on (gr_box HGU.out (by omega) hF4) hbT3'
          obtain ⟨i0, i1, i2, i3, i4⟩ := cells5S hFt
          obtain ⟨j0, j1, j2, j3, j4⟩ := cells5S hH
          rw [hT3] at i0 i1 i2 i3 i4 j0 j1 j2 j3 j4
          go_wp2_with fail
          rw [← hT3]
          clear i0 i1 i2 i3 i4 j0 j1 j2 j3 j4 hT3
          have hbUw : Below w.heap.size w U := hbw4.grown HGU.out hbw4.size (fun j hj => by cases hj; omega)
          refine (isFrame_t f.st f.tm f.sq f.lf f.d a5 fa c5 fc T3 (hr5.below hbT3) (hd.below (below_next hbUw hbT3'))).mono ?_
          rintro e t4 ⟨rfl, hbt4⟩
          have hDt4 := box_on hD (below_next (below_next hbt3 hbT3) hbt4)
          have hBt4 := box_on hBU (below_next hbT3' hbt4)
          have HRt4 : Hid (BunR t4 o3 a4 c4 p4 d4) := HR4.out.below (below_next hbT2 (below_next (below_next hbt3 hbT3) hbt4))
          have HP4 := put12 hBt4 HRt4.out (fun q hq => by have h1 := HA4.out q hq; have h2 := (Array.getElem?_eq_some_iff.1 hBU).1; have h3 := hbt1.size; omega)
          have HG4 : Hid (w4.grownBy t4 (some g)) := gr_below HGU.out (below_next hbT3' hbt4)
          have HQ4 : Hid _ := HP4
          clear HP4
          obtain ⟨x0, x1, x2, x3, x4, x5, x6, x7, x8, x9, x10, x11, -⟩ := cells12 hDt4
          obtain ⟨y0, y1, y2, y3, y4, y5, y6, y7, y8, y9, y10, y11, z0, z1, z2, z3, z4, z5, z6, z7, z8, z9, z10, z11⟩ := cells12 hBt4
          go_wp2
          go_roundw
          case rel => exact ⟨k + 1, o3, a4, c4, p4, d4, by omega, by go_num, HTU, HQ4.out.1, HQ4.out.2.1, grown_add HG4.out HQ4.out.2.2 (.inl rfl)⟩
          case measure => simp [intOf]; omega
      · have hzI : ¬ (0 : Int) < (y : Int) := by omega
        rw [hU1] at hyk
        go_upto_region 17 with fail
        rw [← hU1, ← hcb]
        rw [← hcb] at hC
        have hU1s := (Array.getElem?_eq_some_iff.1 hC).1
        have HHC : Hid (cb = u1.heap.size) := hcb
        clear hyk hU1 hcb
        rcases HT.out.hop HT1.out with h6 | ⟨h0, hT3⟩
        · subst h6
          have HTU : Hid (Tr fl tt f.st.toNat fr f.tm f.sq f.lf f.d b) := HT.out
          have HRU : Hid (BunR U1 b ba bc pa pc) := HR.out.below hbU1'
          have HGU : Hid (w4.grownBy U1 (some g)) := HGU1.out
          have hBU := hBU1
          obtain ⟨x0, x1, x2, x3, x4, x5, x6, x7, x8, x9, x10, x11, -⟩ := cells12 hBU1
          go_wp2_with fail
          clear x0 x1 x2 x3 x4 x5 x6 x7 x8 x9 x10 x11
          refine (encode_any b ba bc pa pc U1 HRU.out).mono ?_
          rintro e t1 ⟨⟨v3, n3, xs, rfl, hv3, hown3, hxs⟩, hbt1⟩
          obtain rfl : n3 = 0 := hv3.same HTU.out.valid
          rw [if_pos rfl] at hxs
          obtain ⟨a3, c3, rfl, -, -, hn3, hr3, -⟩ := hown3.val
          have HX : Hid (xs = encB b) := hxs
          have HN3 : Hid (a3 = none → c3 = 0) := hn3
          clear hxs hn3 hv3 hown3
          go_wp2_with fail
          refine (decode_any a3 c3 xs t1 hr3 HN3.out (by rw [HX.out]; have := HTU.out.len; omega)).mono ?_
          rintro e t2 ⟨⟨o2, a4, c4, p4, d4, n4, rfl, hd4, hrow4, hown4, hok4⟩, hbt2⟩
          rw [HX.out, HTU.out.dec] at hd4
          simp only [Prod.mk.injEq] at hd4
          obtain ⟨rfl, rfl⟩ := hd4
          have HR4 : Hid (BunR t2 b a4 c4 p4 d4) := bunR_of hrow4 hown4 hok4
          have HA4 : Hid (∀ q, a4 = some q → t1.heap.size ≤ q.block) := fun q hq => (hrow4.rd.2.2.2 q hq).1
          clear hrow4 hown4 hok4 hr3
          unfold bunV
          obtain ⟨T2, hT2⟩ : ∃ T2 : World, T2 = t2.alloc (.cells #[.int .u64 b.fl, .int .u64 b.e0, .int .u64 b.e1, .int .u64 b.e2, .int .u64 b.e3, .int .u64 b.e4, .int .u64 b.e5, .int .u64 b.tm, .int .u64 b.sq, .int .u64 b.lf, .slice a4 b.bl.length c4, .slice p4 b.py.length d4] 34) := ⟨_, rfl⟩
          have hD : T2.heap[t2.heap.size]? = some (.cells #[.int .u64 b.fl, .int .u64 b.e0, .int .u64 b.e1, .int .u64 b.e2, .int .u64 b.e3, .int .u64 b.e4, .int .u64 b.e5, .int .u64 b.tm, .int .u64 b.sq, .int .u64 b.lf, .slice a4 b.bl.length c4, .slice p4 b.py.length d4] 34 (0, 0)) := by rw [hT2]; exact heap_alloc_new t2 _
          have hbT2 : Below t2.heap.size t2 T2 := by rw [hT2]; exact al (Below.refl _ _) _
          have hbT2' := below_next hbt1 (below_next hbt2 hbT2)
          obtain ⟨x0, x1, x2, x3, x4, x5, x6, x7, x8, x9, x10, x11, -⟩ := cells12 hD
          rw [hT2] at x0 x1 x2 x3 x4 x5 x6 x7 x8 x9 x10 x11
          go_wp2_with fail
          rw [← hT2]
          clear x0 x1 x2 x3 x4 x5 x6 x7 x8 x9 x10 x11 hT2
          refine (open_any b a4 c4 p4 d4 T2 (HR4.out.below hbT2)).mono ?_
          rintro e t3 ⟨⟨st, tm, sq, lf, a5, c5, zs, fr', nw', n5, rfl, ho5, hr5⟩, hbt3⟩
          obtain ⟨rfl, rfl, rfl, rfl, rfl, rfl, rfl, rfl⟩ := HTU.out.opensF HFL.out hfit.1 ho5
          clear ho5
          obtain ⟨T3, hT3⟩ : ∃ T3 : World, T3 = t3.alloc (.cells #[.int .i64 f.st, .int .u64 (f.tm : Nat), .int .u64 (f.sq : Nat), .int .u64 (f.lf : Nat), .slice a5 f.d.length c5] 47) := ⟨_, rfl⟩
          have hH : T3.heap[t3.heap.size]? = some (.cells #[.int .i64 f.st, .int .u64 (f.tm : Nat), .int .u64 (f.sq : Nat), .int .u64 (f.lf : Nat), .slice a5 f.d.length c5] 47 (0, 0)) := by rw [hT3]; exact heap_alloc_new t3 _
          have hbT3 : Below t3.heap.size t3 T3 := by rw [hT3]; exact al (Below.refl _ _) _
          have hbT3' := below_next hbT2' (below_next hbt3 hbT3)
          have hFt := box_on (gr_box HGU.out (by omega) hF4) hbT3'
          obtain ⟨i0, i1, i2, i3, i4⟩ := cells5S hFt
          obtain ⟨j0, j1, j2, j3, j4⟩ := cells5S hH
          rw [hT3] at i0 i1 i2 i3 i4 j0 j1 j2 j3 j4
          go_wp2_with fail
          rw [← hT3]
          clear i0 i1 i2 i3 i4 j0 j1 j2 j3 j4 hT3
          have hbUw : Below w.heap.size w U1 := hbw4.grown HGU.out hbw4.size (fun j hj => by cases hj; omega)
          refine (isFrame_t f.st f.tm f.sq f.lf f.d a5 fa c5 fc T3 (hr5.below hbT3) (hd.below (below_next hbUw hbT3'))).mono ?_
          rintro e t4 ⟨rfl, hbt4⟩
          have hDt4 := box_on hD (below_next (below_next hbt3 hbT3) hbt4)
          have hBt4 := box_on hBU (below_next hbT3' hbt4)
          have HRt4 : Hid (BunR t4 b a4 c4 p4 d4) := HR4.out.below (below_next hbT2 (below_next (below_next hbt3 hbT3) hbt4))
          have HP4 := put12 hBt4 HRt4.out (fun q hq => by have h1 := HA4.out q hq; have h2 := (Array.getElem?_eq_some_iff.1 hBU).1; have h3 := hbt1.size; omega)
          have HG4 : Hid (w4.grownBy t4 (some g)) := gr_below HGU.out (below_next hbT3' hbt4)
          have HQ4 : Hid _ := HP4
          clear HP4
          obtain ⟨x0, x1, x2, x3, x4, x5, x6, x7, x8, x9, x10, x11, -⟩ := cells12 hDt4
          obtain ⟨y0, y1, y2, y3, y4, y5, y6, y7, y8, y9, y10, y11, z0, z1, z2, z3, z4, z5, z6, z7, z8, z9, z10, z11⟩ := cells12 hBt4
          go_wp2
          go_roundw
          case rel => exact ⟨k + 1, b, a4, c4, p4, d4, by omega, by go_num, HTU, HQ4.out.1, HQ4.out.2.1, grown_add HG4.out HQ4.out.2.2 (.inl rfl)⟩
          case measure => simp [intOf]; omega
        · subst h0
          obtain ⟨x0, x1, x2, x3, x4, x5, x6, x7, x8, x9, x10, x11, -⟩ := cells12 hC
          obtain ⟨y0, y1, y2, y3, y4, y5, y6, y7, y8, y9, y10, y11, z0, z1, z2, z3, z4, z5, z6, z7, z8, z9, z10, z11⟩ := cells12 hBU1
          obtain ⟨U, hU⟩ : ∃ U : World, U = ((((((((((((U1.setCell ⟨g, 0, none⟩ (.int .u64 o.fl)).setCell ⟨g, 1, none⟩ (.int .u64 o.e0)).setCell ⟨g, 2, none⟩ (.int .u64 o.e1)).setCell ⟨g, 3, none⟩ (.int .u64 o.e2)).setCell ⟨g, 4, none⟩ (.int .u64 o.e3)).setCell ⟨g, 5, none⟩ (.int .u64 o.e4)).setCell ⟨g, 6, none⟩ (.int .u64 o.e5)).setCell ⟨g, 7, none⟩ (.int .u64 o.tm)).setCell ⟨g, 8, none⟩ (.int .u64 o.sq)).setCell ⟨g, 9, none⟩ (.int .u64 o.lf)).setCell ⟨g, 10, none⟩ (.slice a1 o.bl.length c1)).setCell ⟨g, 11, none⟩ (.slice p1 o.py.length d1)) := ⟨_, rfl⟩
          have HP := put12 hBU1 (HR1.out.below hbU1) (fun q hq => by have := HF1.out q hq; omega)
          rw [← hU] at HP
          obtain ⟨hBU, hRU, hGU⟩ := HP
          have HTU : Hid (Tr fl tt f.st.toNat fr f.tm f.sq f.lf f.d o) := hT3
          have HRU : Hid (BunR U o a1 c1 p1 d1) := hRU
          have HGU : Hid (w4.grownBy U (some g)) := grown_add HGU1.out hGU (.inl rfl)
          clear hRU hGU hT3
          go_wp2_with fail
          rw [← hU]
          clear x0 x1 x2 x3 x4 x5 x6 x7 x8 x9 x10 x11 y0 y1 y2 y3 y4 y5 y6 y7 y8 y9 y10 y11 z0 z1 z2 z3 z4 z5 z6 z7 z8 z9 z10 z11 hU
          refine (encode_any o a1 c1 p1 d1 U HRU.out).mono ?_
          rintro e t1 ⟨⟨v3, n3, xs, rfl, hv3, hown3, hxs⟩, hbt1⟩
          obtain rfl : n3 = 0 := hv3.same HTU.out.valid
          rw [if_pos rfl] at hxs
          obtain ⟨a3, c3, rfl, -, -, hn3, hr3, -⟩ := hown3.val
          have HX : Hid (xs = encB o) := hxs
          have HN3 : Hid (a3 = none → c3 = 0) := hn3
          clear hxs hn3 hv3 hown3
          go_wp2_with fail
          refine (decode_any a3 c3 xs t1 hr3 HN3.out (by rw [HX.out]; have := HTU.out.len; omega)).mono ?_
          rintro e t2 ⟨⟨o2, a4, c4, p4, d4, n4, rfl, hd4, hrow4, hown4, hok4⟩, hbt2⟩
          rw [HX.out, HTU.out.dec] at hd4
          simp only [Prod.mk.injEq] at hd4
          obtain ⟨rfl, rfl⟩ := hd4
          have HR4 : Hid (BunR t2 o a4 c4 p4 d4) := bunR_of hrow4 hown4 hok4
          have HA4 : Hid (∀ q, a4 = some q → t1.heap.size ≤ q.block) := fun q hq => (hrow4.rd.2.2.2 q hq).1
          clear hrow4 hown4 hok4 hr3
          unfold bunV
          obtain ⟨T2, hT2⟩ : ∃ T2 : World, T2 = t2.alloc (.cells #[.int .u64 o.fl, .int .u64 o.e0, .int .u64 o.e1, .int .u64 o.e2, .int .u64 o.e3, .int .u64 o.e4, .int .u64 o.e5, .int .u64 o.tm, .int .u64 o.sq, .int .u64 o.lf, .slice a4 o.bl.length c4, .slice p4 o.py.length d4] 34) := ⟨_, rfl⟩
          have hD : T2.heap[t2.heap.size]? = some (.cells #[.int .u64 o.fl, .int .u64 o.e0, .int .u64 o.e1, .int .u64 o.e2, .int .u64 o.e3, .int .u64 o.e4, .int .u64 o.e5, .int .u64 o.tm, .int .u64 o.sq, .int .u64 o.lf, .slice a4 o.bl.length c4, .slice p4 o.py.length d4] 34 (0, 0)) := by rw [hT2]; exact heap_alloc_new t2 _
          have hbT2 : Below t2.heap.size t2 T2 := by rw [hT2]; exact al (Below.refl _ _) _
          have hbT2' := below_next hbt1 (below_next hbt2 hbT2)
          obtain ⟨x0, x1, x2, x3, x4, x5, x6, x7, x8, x9, x10, x11, -⟩ := cells12 hD
          rw [hT2] at x0 x1 x2 x3 x4 x5 x6 x7 x8 x9 x10 x11
          go_wp2_with fail
          rw [← hT2]
          clear x0 x1 x2 x3 x4 x5 x6 x7 x8 x9 x10 x11 hT2
          refine (open_any o a4 c4 p4 d4 T2 (HR4.out.below hbT2)).mono ?_
          rintro e t3 ⟨⟨st, tm, sq, lf, a5, c5, zs, fr', nw', n5, rfl, ho5, hr5⟩, hbt3⟩
          obtain ⟨rfl, rfl, rfl, rfl, rfl, rfl, rfl, rfl⟩ := HTU.out.opensF HFL.out hfit.1 ho5
          clear ho5
          obtain ⟨T3, hT3⟩ : ∃ T3 : World, T3 = t3.alloc (.cells #[.int .i64 f.st, .int .u64 (f.tm : Nat), .int .u64 (f.sq : Nat), .int .u64 (f.lf : Nat), .slice a5 f.d.length c5] 47) := ⟨_, rfl⟩
          have hH : T3.heap[t3.heap.size]? = some (.cells #[.int .i64 f.st, .int .u64 (f.tm : Nat), .int .u64 (f.sq : Nat), .int .u64 (f.lf : Nat), .slice a5 f.d.length c5] 47 (0, 0)) := by rw [hT3]; exact heap_alloc_new t3 _
          have hbT3 : Below t3.heap.size t3 T3 := by rw [hT3]; exact al (Below.refl _ _) _
          have hbT3' := below_next hbT2' (below_next hbt3 hbT3)
          have hFt := box_on (gr_box HGU.out (by omega) hF4) hbT3'
          obtain ⟨i0, i1, i2, i3, i4⟩ := cells5S hFt
          obtain ⟨j0, j1, j2, j3, j4⟩ := cells5S hH
          rw [hT3] at i0 i1 i2 i3 i4 j0 j1 j2 j3 j4
          go_wp2_with fail
          rw [← hT3]
          clear i0 i1 i2 i3 i4 j0 j1 j2 j3 j4 hT3
          have hbUw : Below w.heap.size w U := hbw4.grown HGU.out hbw4.size (fun j hj => by cases hj; omega)
          refine (isFrame_t f.st f.tm f.sq f.lf f.d a5 fa c5 fc T3 (hr5.below hbT3) (hd.below (below_next hbUw hbT3'))).mono ?_
          rintro e t4 ⟨rfl, hbt4⟩
          have hDt4 := box_on hD (below_next (below_next hbt3 hbT3) hbt4)
          have hBt4 := box_on hBU (below_next hbT3' hbt4)
          have HRt4 : Hid (BunR t4 o a4 c4 p4 d4) := HR4.out.below (below_next hbT2 (below_next (below_next hbt3 hbT3) hbt4))
          have HP4 := put12 hBt4 HRt4.out (fun q hq => by have h1 := HA4.out q hq; have h2 := (Array.getElem?_eq_some_iff.1 hBU).1; have h3 := hbt1.size; omega)
          have HG4 : Hid (w4.grownBy t4 (some g)) := gr_below HGU.out (below_next hbT3' hbt4)
          have HQ4 : Hid _ := HP4
          clear HP4
          obtain ⟨x0, x1, x2, x3, x4, x5, x6, x7, x8, x9, x10, x11, -⟩ := cells12 hDt4
          obtain ⟨y0, y1, y2, y3, y4, y5, y6, y7, y8, y9, y10, y11, z0, z1, z2, z3, z4, z5, z6, z7, z8, z9, z10, z11⟩ := cells12 hBt4
          go_wp2
          go_roundw
          case rel => exact ⟨k + 1, o, a4, c4, p4, d4, by omega, by go_num, HTU, HQ4.out.1, HQ4.out.2.1, grown_add HG4.out HQ4.out.2.2 (.inl rfl)⟩
          case measure => simp [intOf]; omega
    · obtain ⟨x0, x1, x2, x3, x4, x5, x6, x7, x8, x9, x10, x11, -⟩ := cells12 hB
      go_wp2_with fail
      clear x0 x1 x2 x3 x4 x5 x6 x7 x8 x9 x10 x11
      refine (open_any b ba bc pa pc wr HR.out).mono ?_
      rintro e t3 ⟨⟨st, tm, sq, lf, a5, c5, zs, fr', nw', n5, rfl, ho5, hr5⟩, hbt3⟩
      obtain ⟨rfl, rfl, rfl, rfl, rfl, rfl, rfl, rfl⟩ := HT.out.opensF HFL.out hfit.1 ho5
      clear ho5
      obtain ⟨T3, hT3⟩ : ∃ T3 : World, T3 = t3.alloc (.cells #[.int .i64 f.st, .int .u64 (f.tm : Nat), .int .u64 (f.sq : Nat), .int .u64 (f.lf : Nat), .slice a5 f.d.length c5] 47) := ⟨_, rfl⟩
      have hH : T3.heap[t3.heap.size]? = some (.cells #[.int .i64 f.st, .int .u64 (f.tm : Nat), .int .u64 (f.sq : Nat), .int .u64 (f.lf : Nat), .slice a5 f.d.length c5] 47 (0, 0)) := by rw [hT3]; exact heap_alloc_new t3 _
      have hbT3 : Below t3.heap.size t3 T3 := by rw [hT3]; exact al (Below.refl _ _) _
      have hbT3' := below_next hbt3 hbT3
      have hFt := box_on hFr hbT3'
      obtain ⟨i0, i1, i2, i3, i4⟩ := cells5S hFt
      obtain ⟨j0, j1, j2, j3, j4⟩ := cells5S hH
      rw [hT3] at i0 i1 i2 i3 i4 j0 j1 j2 j3 j4
      go_wp2_with fail
      rw [← hT3]
      clear i0 i1 i2 i3 i4 j0 j1 j2 j3 j4 hT3
      refine (isFrame_t f.st f.tm f.sq f.lf f.d a5 fa c5 fc T3 (hr5.below hbT3) (hd.below (below_next hbwr hbT3'))).mono ?_
      rintro e t4 ⟨rfl, hbt4⟩
      go_wp2
      go_ret
      exact ⟨by simp, below_next hbwr (below_next hbT3' hbt4)⟩
end Go.Proofs.Ytdpkommmkcmifaa
