import Derived.Test.YtdpkommmkcmifaaWrapB
import Derived.Test.YtdpkommmkcmifaaSmall
import Derived.Test.YtdpkommmkcmifaaPut
import Derived.Test.YtdpkommmkcmifaaHop1
import Derived.Test.YtdpkommmkcmifaaFit
import Derived.Test.YtdpkommmkcmifaaOpenU
import Derived.Deep.CutRange
namespace Go.Proofs.Ytdpkommmkcmifaa
set_option linter.unusedVariables false
set_option linter.unusedSimpArgs false
open Go.RowKit
theorem cells5E {W : World} {g : Nat} {t : TypeId} {v0 v1 v2 v3 v4 : Value} (h : W.heap[g]? = some (.cells #[v0, v1, v2, v3, v4] t (0, 0))) : W.cell? ⟨g, 0, none⟩ = some v0 ∧ W.cell? ⟨g, 1, none⟩ = some v1 ∧ W.cell? ⟨g, 2, none⟩ = some v2 ∧ W.cell? ⟨g, 3, none⟩ = some v3 ∧ W.cell? ⟨g, 4, none⟩ = some v4 :=
  ⟨by rw [cell_of_row W g 0 _ t _ h]; rfl, by rw [cell_of_row W g 1 _ t _ h]; rfl, by rw [cell_of_row W g 2 _ t _ h]; rfl, by rw [cell_of_row W g 3 _ t _ h]; rfl, by rw [cell_of_row W g 4 _ t _ h]; rfl⟩
theorem box12e {W : World} {g : Nat} {t : TypeId} {v0 v1 v2 v3 v4 v5 v6 v7 v8 v9 v10 v11 : Value} (h : W.heap[g]? = some (.cells #[v0, v1, v2, v3, v4, v5, v6, v7, v8, v9, v10, v11] t (0, 0))) : ∀ i v, #[v0, v1, v2, v3, v4, v5, v6, v7, v8, v9, v10, v11][i]? = some v → ∀ u, Below W.heap.size W u → u.cell? ⟨g, i, none⟩ = some v := by
  intro i v hi u hu
  rw [cell_of_row u g i _ t _ (box_on h hu)]
  exact hi
/-- the bundle of a frame from node 1 to node 2, that has c hops and the age m -/
def Eb (s tm sq lf : Nat) (d : List UInt8) (c m : Nat) (b : Bun) : Prop := b = trB 5 2 s 1 tm sq lf (dgs [8, c]) (dg m) d ∧ TrOk 5 2 s 1 tm sq lf (dgs [8, c]) (dg m) d ∧ c ≤ 8 ∧ m ≤ 281474976710655
section
variable {s tm sq lf c m : Nat} {d : List UInt8} {b : Bun}
theorem eb_wr {st : Int} (hf : fitF st tm sq lf) (hd : d.length ≤ 512) : Eb st.toNat tm sq lf d 0 0 (wrB st tm sq lf d 1 2 false) := by
  have h := tr_wr (nw := false) (fr := 1) (tt := 2) hf (by decide) (by decide) hd
  have e1 : dgs [8, 0] = [8, 0] := dgs80
  have e2 : dg 0 = [0] := by have := dgs00; rwa [dgs_one] at this
  refine ⟨?_, ?_, by decide, by decide⟩
  · rw [wrB_tr, e1, e2]; rfl
  · rw [e1, e2]; exact h
theorem Eb.hop (k : Eb s tm sq lf d c m b) {o : Bun} {n : Int} (t : TurnIs b 10 hopTurn o n) : (n = 6 ∧ c = 8) ∨ (n = 0 ∧ c < 8 ∧ Eb s tm sq lf d (c + 1) m o) := by
  obtain ⟨rfl, k, hc, hm⟩ := k
  rcases k.hop t with ⟨e, h⟩ | ⟨e, h', h, k', e2⟩
  · rw [hopTurn_dgs c hc] at h
    split at h
    · exact .inl ⟨e, by assumption⟩
    · cases h
  · rw [hopTurn_dgs c hc] at h
    split at h
    · cases h
    · cases h
      exact .inr ⟨e, by omega, e2, k', by omega, hm⟩
theorem Eb.age {x : Nat} (k : Eb s tm sq lf d c m b) {o : Bun} {n : Int} (t : TurnIs b 7 (ageTurn x) o n) : (n = 6 ∧ 281474976710655 - m < x) ∨ (n = 0 ∧ x ≤ 281474976710655 - m ∧ Eb s tm sq lf d c (m + x) o) := by
  obtain ⟨rfl, k, hc, hm⟩ := k
  rcases k.age t with ⟨e, h⟩ | ⟨e, h', h, k', e2⟩
  · rw [ageTurn_dg m x hm] at h
    split at h
    · exact .inl ⟨e, by assumption⟩
    · cases h
  · rw [ageTurn_dg m x hm] at h
    split at h
    · cases h
    · cases h
      exact .inr ⟨e, by omega, e2, k', hc, by omega⟩
theorem Eb.pos (k : Eb s tm sq lf d c m b) : 0 < b.bl.length := by
  obtain ⟨rfl, -⟩ := k
  simp [trB]
theorem Eb.bound (k : Eb s tm sq lf d c m b) : m ≤ 281474976710655 := k.2.2.2
theorem Eb.age_t (k : Eb s tm sq lf d c m b) (ba : Option Addr) (bc : Nat) (pa : Option Addr) (pc : Nat) (w : World) (hR : BunR w b ba bc pa pc) :
    Calls Try.prog 29 #[bunV b ba bc pa pc] w fun e w' => e = .returned (.tuple #[.int .u64 (m : Nat), .bool true]) ∧ Below w.heap.size w w' := by
  obtain ⟨rfl, -, -, hm⟩ := k
  exact Go.Proofs.Ytdpkommmkcmifaa.age_t m hm ba bc pa pc w hR
end
set_option maxRecDepth 20000 in
set_option maxHeartbeats 3200000 in
theorem ends_walk (f : Frm) (fa : Option Addr) (fc : Nat) (ya : Option Addr) (yc : Nat) (ys : List Nat) (w : World) (hR : Rd w fa f.d ∧ f.d.length ≤ fc ∧ (fa = none → fc = 0) ∧ f.ok) (hy : RdW w ya ys) (hyc : ys.length ≤ yc) (hyn : ya = none → yc = 0) (hyl : ys.length ≤ 17592186044416) :
    Calls Try.prog 8 #[frmW f fa fc, .slice ya ys.length yc] w fun e w' => e = .returned (.bool true) ∧ Below w.heap.size w w' := by
  obtain ⟨hd, hlc, hn, hok⟩ := hR
  have HN : Hid (fa = none → fc = 0) := hn
  clear hn
  unfold frmW
  obtain ⟨W0, hW0⟩ : ∃ W0 : World, W0 = w.alloc (.cells #[.int .i64 f.st, .int .u64 (f.tm : Nat), .int .u64 (f.sq : Nat), .int .u64 (f.lf : Nat), .slice fa f.d.length fc] 47) := ⟨_, rfl⟩
  have hF : W0.heap[w.heap.size]? = some (.cells #[.int .i64 f.st, .int .u64 (f.tm : Nat), .int .u64 (f.sq : Nat), .int .u64 (f.lf : Nat), .slice fa f.d.length fc] 47 (0, 0)) := by rw [hW0]; exact heap_alloc_new w _
  have hbW0 : Below w.heap.size w W0 := by rw [hW0]; exact al (Below.refl _ _) _
  go_enter Try.func8, Try.ntmps8
  go_wp2_with fail
  rw [← hW0]
  clear hW0
  refine (small_t W0).mono ?_
  rintro e w1 ⟨rfl, hb1⟩
  have hbw1 := below_next hbW0 hb1
  have hF1 := box_on hF hb1
  obtain ⟨i0, i1, i2, i3, i4⟩ := cells5E hF1
  go_wp2_with fail
  clear i0 i1 i2 i3 i4
  refine (wrap_any f.st f.tm f.sq f.lf f.d fa fc 1 2 false w1 (hd.below hbw1) HN.out hok.st ⟨hok.tm, hok.sq, hok.lf, by decide, by decide⟩ hok.d).mono ?_
  rintro e w2 ⟨⟨b, ba, bc, pa, pc, n2, rfl, hw2, hrow2, hown2, hok2⟩, hb2⟩
  have HW2 : Hid (wrapS f.st f.tm f.sq f.lf f.d 1 2 false = (b, n2)) := hw2
  have HR2 : Hid (BunR w2 b ba bc pa pc) := bunR_of hrow2 hown2 hok2
  clear hw2 hrow2 hown2 hok2
  unfold bunV
  obtain ⟨W2, hW2⟩ : ∃ W2 : World, W2 = w2.alloc (.cells #[.int .u64 b.fl, .int .u64 b.e0, .int .u64 b.e1, .int .u64 b.e2, .int .u64 b.e3, .int .u64 b.e4, .int .u64 b.e5, .int .u64 b.tm, .int .u64 b.sq, .int .u64 b.lf, .slice ba b.bl.length bc, .slice pa b.py.length pc] 34) := ⟨_, rfl⟩
  have hB : W2.heap[w2.heap.size]? = some (.cells #[.int .u64 b.fl, .int .u64 b.e0, .int .u64 b.e1, .int .u64 b.e2, .int .u64 b.e3, .int .u64 b.e4, .int .u64 b.e5, .int .u64 b.tm, .int .u64 b.sq, .int .u64 b.lf, .slice ba b.bl.length bc, .slice pa b.py.length pc] 34 (0, 0)) := by rw [hW2]; exact heap_alloc_new w2 _
  have hbW2 : Below w2.heap.size w2 W2 := by rw [hW2]; exact al (Below.refl _ _) _
  have hbw2 := below_next hbw1 (below_next hb2 hbW2)
  have hF2 := box_on hF1 (below_next hb2 hbW2)
  obtain ⟨i0, i1, i2, i3, i4⟩ := cells5E hF2
  by_cases hbad : fitF f.st f.tm f.sq f.lf ∧ f.d.length ≤ 512
  rotate_left
  · have hn0 : n2 ≠ 0 := by
      have h2 := HW2.out
      unfold wrapS at h2
      split at h2
      · simp only [Prod.mk.injEq] at h2; omega
      · split at h2
        · simp only [Prod.mk.injEq] at h2; omega
        · rename_i h3 h4
          exfalso
          apply hbad
          exact ⟨(Classical.not_not.1 h3).1, by omega⟩
    rw [hW2] at i0 i1 i2 i3 i4
    go_wp2_with fail
    rw [← hW2]
    clear i0 i1 i2 i3 i4 hW2
    refine (fits_d f.st f.tm f.sq f.lf f.d fa fc W2).mono ?_
    rintro e w3 ⟨rfl, hb3⟩
    have hbw3 := below_next hbw2 hb3
    obtain ⟨i0, i1, i2, i3, i4⟩ := cells5E (box_on hF2 hb3)
    by_cases hfit : fitF f.st f.tm f.sq f.lf
    · rw [decide_eq_true hfit]
      have h512 : (512 : Int) < (f.d.length : Int) := by
        have : ¬ f.d.length ≤ 512 := fun h => hbad ⟨hfit, h⟩
        omega
      clear hbad
      go_wp2
      go_ret
      exact ⟨by simp [h512], hbw3⟩
    · rw [decide_eq_false hfit]
      clear hbad
      go_wp2
      go_ret
      exact ⟨rfl, hbw3⟩
  obtain ⟨hfit, h5⟩ := hbad
  have h3 := HW2.out
  unfold wrapS at h3
  rw [if_neg (by intro h; exact h ⟨hfit, by decide, by decide⟩), if_neg (by omega)] at h3
  simp only [Prod.mk.injEq] at h3
  obtain ⟨hb, rfl⟩ := h3
  have HE : Hid (Eb f.st.toNat f.tm f.sq f.lf f.d 0 0 b) := by rw [← hb]; exact eb_wr hfit h5
  have HRW : Hid (BunR W2 b ba bc pa pc) := HR2.out.below hbW2
  have hg1 : w.heap.size < w2.heap.size := by have := (Array.getElem?_eq_some_iff.1 hF1).1; have := hb2.size; omega
  clear hb HW2 HR2 i0 i1 i2 i3 i4
  go_wp2_with fail
  obtain ⟨g, hg⟩ : ∃ g, g = w2.heap.size := ⟨_, rfl⟩
  rw [← hW2, ← hg]
  rw [← hg] at hB hg1
  have hgW : W2.heap.size = g + 1 := by rw [hW2, hg]; simp
  clear hW2 hg
  go_loopw [7, 8] (fun su i wr => ∃ (k m : Nat) (b : Bun) (ba : Option Addr) (bc : Nat) (pa : Option Addr) (pc : Nat), k ≤ ys.length ∧ i = .int .i64 k ∧ su = .int .u64 (m : Nat) ∧ Hid (Eb f.st.toNat f.tm f.sq f.lf f.d 0 m b) ∧ wr.heap[g]? = some (.cells #[.int .u64 b.fl, .int .u64 b.e0, .int .u64 b.e1, .int .u64 b.e2, .int .u64 b.e3, .int .u64 b.e4, .int .u64 b.e5, .int .u64 b.tm, .int .u64 b.sq, .int .u64 b.lf, .slice ba b.bl.length bc, .slice pa b.py.length pc] 34 (0, 0)) ∧ Hid (BunR wr b ba bc pa pc) ∧ Hid (W2.grownBy wr (some g))) (fun _ i _ => ys.length - (intOf i).toNat)
  case atStart => exact ⟨0, 0, b, ba, bc, pa, pc, Nat.zero_le _, rfl, rfl, HE, hB, HRW, World.grownBy.refl _ _⟩
  case round =>
    clear HE hB HRW
    obtain ⟨k, m, b, ba, bc, pa, pc, hk, rfl, rfl, HE, hB, HR, HG⟩ := hrel
    have hbwr : Below w.heap.size w wr := hbw2.grown HG.out hbw2.size (fun j hj => by cases hj; omega)
    have hgl : g < wr.heap.size := (Array.getElem?_eq_some_iff.1 hB).1
    have hmb := HE.out.bound
    have hWr := HG.out.size
    by_cases hlt : k < ys.length
    · obtain ⟨yb, yo, rfl, hyq⟩ := hy (by omega)
      obtain ⟨hyk0, hyl2⟩ := hyq k hlt
      clear hyq
      obtain ⟨y, hyy⟩ : ∃ y, y = ys[k] := ⟨_, rfl⟩
      rw [← hyy] at hyk0 hyl2
      clear hyy
      have hyb : yb < w.heap.size := World.block_lt_of_cell? w _ hyk0
      have hyk := (hbwr.cell (p := ⟨yb, yo + k, none⟩) hyb).trans hyk0
      have HYK : Hid (wr.cell? ⟨yb, yo + k, none⟩ = some (.int .u64 (y : Nat))) := hyk
      clear hyk0
      go_wp2_with fail
      have HYL : Hid _ := hyl2
      go_cut [9, 10] from 36 to 83 (fun pv nv wx => ∃ o3 a3 c3 p3 d3 n3 cb, pv = .pointer (some ⟨cb, 0, none⟩) ∧ nv = .int .i64 n3 ∧ Hid (TurnIs b 7 (ageTurn y) o3 n3) ∧ wx.heap[cb]? = some (.cells #[.int .u64 o3.fl, .int .u64 o3.e0, .int .u64 o3.e1, .int .u64 o3.e2, .int .u64 o3.e3, .int .u64 o3.e4, .int .u64 o3.e5, .int .u64 o3.tm, .int .u64 o3.sq, .int .u64 o3.lf, .slice a3 o3.bl.length c3, .slice p3 o3.py.length d3] 34 (0, 0)) ∧ Hid (BunR wx o3 a3 c3 p3 d3) ∧ Hid (∀ q, a3 = some q → wr.heap.size ≤ q.block) ∧ Hid (Below wr.heap.size wr wx))
      case first =>
        have gy : ∀ u, Below wr.heap.size wr u → u.cell? ⟨yb, yo + k, none⟩ = some (.int .u64 (y : Nat)) := fun u hu => (hu.cell (p := ⟨yb, yo + k, none⟩) (World.block_lt_of_cell? wr _ HYK.out)).trans HYK.out
        have hall := box12e hB
        have g0 := hall 0 _ rfl
        have g1 := hall 1 _ rfl
        have g2 := hall 2 _ rfl
        have g3 := hall 3 _ rfl
        have g4 := hall 4 _ rfl
        have g5 := hall 5 _ rfl
        have g6 := hall 6 _ rfl
        have g7 := hall 7 _ rfl
        have g8 := hall 8 _ rfl
        have g9 := hall 9 _ rfl
        have g10 := hall 10 _ rfl
        have g11 := hall 11 _ rfl
        have hS0 : Below wr.heap.size wr wr := Below.refl _ _
        clear hall hyk
        refine wp_region_noPanic ?_
        refine wp_region_held_drew (S := (fun u => Below wr.heap.size wr u)) (by kernel_rfl) (by with_reducible first | assumption | exact (Below.refl _ _).drew | exact al (by assumption) _ | exact (al (Below.refl _ _) _).drew | exact below_set12 (by assumption) (Nat.le_refl _)) (fun hHeld => ?_)
        refine take_at (i := 0) 43 (v := ?_) rfl rfl (by kernel_rfl) (by kernel_rfl) (by kernel_rfl) (fun _ _ _ h => h) (by rfl) ?_ hHeld ?_
        rotate_left
        · (intro w hSw; (try dsimp only at hSw); go_simp; try with_reducible rfl)
        simp only [Act.put, List.setIfInBounds_toArray, List.set_cons_zero, List.set_cons_succ]
        refine take_at (i := 1) 44 (v := ?_) rfl rfl (by kernel_rfl) (by kernel_rfl) (by kernel_rfl) (fun _ _ _ h => h) (by rfl) ?_ hHeld ?_
        rotate_left
        · (intro w hSw; (try dsimp only at hSw); go_simp; try with_reducible rfl)
        simp only [Act.put, List.setIfInBounds_toArray, List.set_cons_zero, List.set_cons_succ]
        refine take_at (i := 2) 45 (v := ?_) rfl rfl (by kernel_rfl) (by kernel_rfl) (by kernel_rfl) (fun _ _ _ h => h) (by rfl) ?_ hHeld ?_
        rotate_left
        · (intro w hSw; (try dsimp only at hSw); go_simp; try with_reducible rfl)
        simp only [Act.put, List.setIfInBounds_toArray, List.set_cons_zero, List.set_cons_succ]
        refine take_at (i := 3) 46 (v := ?_) rfl rfl (by kernel_rfl) (by kernel_rfl) (by kernel_rfl) (fun _ _ _ h => h) (by rfl) ?_ hHeld ?_
        rotate_left
        · (intro w hSw; (try dsimp only at hSw); go_simp; try with_reducible rfl)
        simp only [Act.put, List.setIfInBounds_toArray, List.set_cons_zero, List.set_cons_succ]
        refine take_at (i := 4) 47 (v := ?_) rfl rfl (by kernel_rfl) (by kernel_rfl) (by kernel_rfl) (fun _ _ _ h => h) (by rfl) ?_ hHeld ?_
        rotate_left
        · (intro w hSw; (try dsimp only at hSw); go_simp; try with_reducible rfl)
        simp only [Act.put, List.setIfInBounds_toArray, List.set_cons_zero, List.set_cons_succ]
        refine wpAnyH_ready (rs := [5, 9]) (by kernel_rfl) (by simp) ?_
        refine AllReadyH.cons (o := _) rfl (fun K hK => ?_) ?_
        focus
          rw [if_pos (by rfl)]
          simp only [List.getElem_toArray, List.getElem_cons_zero, List.getElem_cons_succ]
          go_simp
          first | (go_at_call 26; refine (aged_any b ba bc pa pc y _ (HR.out.below (by first | exact (Below.refl _ _).drew | assumption)) hyl2).mono ?_; rintro e u3 ⟨⟨o3, a3, c3, p3, d3, n3, rfl, ht3, hR3, hf3⟩, hb3⟩; have hS3 : Below wr.heap.size wr u3 := below_next (B := wr) (by first | exact (Below.refl _ _).drew | assumption) hb3; have HT3 : Hid (TurnIs b 7 (ageTurn y) o3 n3) := ht3; have HR3 : Hid (BunR u3 o3 a3 c3 p3 d3) := hR3; have HF3 : Hid (∀ q, a3 = some q → wr.heap.size < q.block ∨ wr.heap.size ≤ q.block) := (fun q hq => by have := hf3 q hq; simp at this; omega); unfold bunV; first | (have hNew := box_on (heap_alloc_new wr _) (below_next (Below.refl _ _).drew hb3); have HNF : Hid (∀ q, a3 = some q → wr.heap.size + 1 ≤ q.block) := (fun q hq => by have := hf3 q hq; simpa using this); obtain ⟨r0, r1, r2, r3, r4, r5, r6, r7, r8, r9, r10, r11, s0, s1, s2, s3, s4, s5, s6, s7, s8, s9, s10, s11⟩ := cells12 hNew; have HNew : Hid _ := hNew; clear hNew) | skip; clear ht3 hR3 hf3)
          go_wp2_with fail
          refine hK.out _ _ (by with_reducible first | assumption | exact (Below.refl _ _).drew | exact al (by assumption) _ | exact (al (Below.refl _ _) _).drew | exact below_set12 (by assumption) (Nat.le_refl _)) ?_
          clear hK K
          intro hHeld2
          clear hHeld
          have hHeld := hHeld2
          clear hHeld2
          try simp only [Act.put, List.setIfInBounds_toArray, List.set_cons_zero, List.set_cons_succ]
          refine take_at (i := 6) 42 (v := ?_) rfl rfl (by kernel_rfl) (by kernel_rfl) (by kernel_rfl) (fun _ _ _ h => h) (by rfl) ?_ hHeld ?_
          rotate_left
          · (intro w hSw; (try dsimp only at hSw); go_simp; try with_reducible rfl)
          simp only [Act.put, List.setIfInBounds_toArray, List.set_cons_zero, List.set_cons_succ]
          refine take_at (i := 7) 49 (v := ?_) rfl rfl (by kernel_rfl) (by kernel_rfl) (by kernel_rfl) (fun _ _ _ h => h) (by rfl) ?_ hHeld ?_
          rotate_left
          · (intro w hSw; (try dsimp only at hSw); go_simp; try with_reducible rfl)
          simp only [Act.put, List.setIfInBounds_toArray, List.set_cons_zero, List.set_cons_succ]
          refine take_at (i := 8) 50 (v := ?_) rfl rfl (by kernel_rfl) (by kernel_rfl) (by kernel_rfl) (fun _ _ _ h => h) (by rfl) ?_ hHeld ?_
          rotate_left
          · (intro w hSw; (try dsimp only at hSw); go_simp; try with_reducible rfl)
          simp only [Act.put, List.setIfInBounds_toArray, List.set_cons_zero, List.set_cons_succ]
          refine run_at (i := 9) rfl (by kernel_rfl) (by rfl) (fun K hK => ?_)
          simp only [List.getElem_toArray, List.getElem_cons_zero, List.getElem_cons_succ]
          go_simp
          go_wp2_with fail
          refine hK.out _ _ (by with_reducible first | assumption | exact (Below.refl _ _).drew | exact al (by assumption) _ | exact (al (Below.refl _ _) _).drew | exact below_set12 (by assumption) (Nat.le_refl _)) ?_
          clear hK K
          intro hHeld2
          clear hHeld
          have hHeld := hHeld2
          clear hHeld2
          try simp only [Act.put, List.setIfInBounds_toArray, List.set_cons_zero, List.set_cons_succ]
          refine run_at (i := 10) rfl (by kernel_rfl) (by rfl) (fun K hK => ?_)
          simp only [List.getElem_toArray, List.getElem_cons_zero, List.getElem_cons_succ]
          go_simp
          go_wp2_with fail
          refine hK.out _ _ (by with_reducible first | assumption | exact (Below.refl _ _).drew | exact al (by assumption) _ | exact (al (Below.refl _ _) _).drew | exact below_set12 (by assumption) (Nat.le_refl _)) ?_
          clear hK K
          intro hHeld2
          clear hHeld
          have hHeld := hHeld2
          clear hHeld2
          try simp only [Act.put, List.setIfInBounds_toArray, List.set_cons_zero, List.set_cons_succ]
          refine take_at (i := 11) 10 (v := ?_) rfl rfl (by kernel_rfl) (by kernel_rfl) (by kernel_rfl) (fun _ _ _ h => h) (by rfl) ?_ hHeld ?_
          rotate_left
          · (intro w hSw; (try dsimp only at hSw); go_simp; try with_reducible rfl)
          simp only [Act.put, List.setIfInBounds_toArray, List.set_cons_zero, List.set_cons_succ]
          refine wpAnyH_done (by kernel_rfl) ?_ _
          refine NoPanic.normal ?_
        rotate_left 1
        refine AllReadyH.cons (o := _) rfl (fun K hK => ?_) AllReadyH.nil
        focus
          rw [if_pos (by rfl)]
          simp only [List.getElem_toArray, List.getElem_cons_zero, List.getElem_cons_succ]
          go_simp
          go_wp2_with fail
          refine hK.out _ _ (by with_reducible first | assumption | exact (Below.refl _ _).drew | exact al (by assumption) _ | exact (al (Below.refl _ _) _).drew | exact below_set12 (by assumption) (Nat.le_refl _)) ?_
          clear hK K
          intro hHeld2
          clear hHeld
          have hHeld := hHeld2
          clear hHeld2
          try simp only [Act.put, List.setIfInBounds_toArray, List.set_cons_zero, List.set_cons_succ]
          refine run_at (i := 5) rfl (by kernel_rfl) (by rfl) (fun K hK => ?_)
          simp only [List.getElem_toArray, List.getElem_cons_zero, List.getElem_cons_succ]
          go_simp
          first | (go_at_call 26; refine (aged_any b ba bc pa pc y _ (HR.out.below (by first | exact (Below.refl _ _).drew | assumption)) hyl2).mono ?_; rintro e u3 ⟨⟨o3, a3, c3, p3, d3, n3, rfl, ht3, hR3, hf3⟩, hb3⟩; have hS3 : Below wr.heap.size wr u3 := below_next (B := wr) (by first | exact (Below.refl _ _).drew | assumption) hb3; have HT3 : Hid (TurnIs b 7 (ageTurn y) o3 n3) := ht3; have HR3 : Hid (BunR u3 o3 a3 c3 p3 d3) := hR3; have HF3 : Hid (∀ q, a3 = some q → wr.heap.size < q.block ∨ wr.heap.size ≤ q.block) := (fun q hq => by have := hf3 q hq; simp at this; omega); unfold bunV; first | (have hNew := box_on (heap_alloc_new wr _) (below_next (Below.refl _ _).drew hb3); have HNF : Hid (∀ q, a3 = some q → wr.heap.size + 1 ≤ q.block) := (fun q hq => by have := hf3 q hq; simpa using this); obtain ⟨r0, r1, r2, r3, r4, r5, r6, r7, r8, r9, r10, r11, s0, s1, s2, s3, s4, s5, s6, s7, s8, s9, s10, s11⟩ := cells12 hNew; have HNew : Hid _ := hNew; clear hNew) | skip; clear ht3 hR3 hf3)
          go_wp2_with fail
          refine hK.out _ _ (by with_reducible first | assumption | exact (Below.refl _ _).drew | exact al (by assumption) _ | exact (al (Below.refl _ _) _).drew | exact below_set12 (by assumption) (Nat.le_refl _)) ?_
          clear hK K
          intro hHeld2
          clear hHeld
          have hHeld := hHeld2
          clear hHeld2
          try simp only [Act.put, List.setIfInBounds_toArray, List.set_cons_zero, List.set_cons_succ]
          refine take_at (i := 6) 42 (v := ?_) rfl rfl (by kernel_rfl) (by kernel_rfl) (by kernel_rfl) (fun _ _ _ h => h) (by rfl) ?_ hHeld ?_
          rotate_left
          · (intro w hSw; (try dsimp only at hSw); go_simp; try with_reducible rfl)
          simp only [Act.put, List.setIfInBounds_toArray, List.set_cons_zero, List.set_cons_succ]
          refine take_at (i := 7) 49 (v := ?_) rfl rfl (by kernel_rfl) (by kernel_rfl) (by kernel_rfl) (fun _ _ _ h => h) (by rfl) ?_ hHeld ?_
          rotate_left
          · (intro w hSw; (try dsimp only at hSw); go_simp; try with_reducible rfl)
          simp only [Act.put, List.setIfInBounds_toArray, List.set_cons_zero, List.set_cons_succ]
          refine take_at (i := 8) 50 (v := ?_) rfl rfl (by kernel_rfl) (by kernel_rfl) (by kernel_rfl) (fun _ _ _ h => h) (by rfl) ?_ hHeld ?_
          rotate_left
          · (intro w hSw; (try dsimp only at hSw); go_simp; try with_reducible rfl)
          simp only [Act.put, List.setIfInBounds_toArray, List.set_cons_zero, List.set_cons_succ]
          refine run_at (i := 10) rfl (by kernel_rfl) (by rfl) (fun K hK => ?_)
          simp only [List.getElem_toArray, List.getElem_cons_zero, List.getElem_cons_succ]
          go_simp
          go_wp2_with fail
          refine hK.out _ _ (by with_reducible first | assumption | exact (Below.refl _ _).drew | exact al (by assumption) _ | exact (al (Below.refl _ _) _).drew | exact below_set12 (by assumption) (Nat.le_refl _)) ?_
          clear hK K
          intro hHeld2
          clear hHeld
          have hHeld := hHeld2
          clear hHeld2
          try simp only [Act.put, List.setIfInBounds_toArray, List.set_cons_zero, List.set_cons_succ]
          refine take_at (i := 11) 10 (v := ?_) rfl rfl (by kernel_rfl) (by kernel_rfl) (by kernel_rfl) (fun _ _ _ h => h) (by rfl) ?_ hHeld ?_
          rotate_left
          · (intro w hSw; (try dsimp only at hSw); go_simp; try with_reducible rfl)
          simp only [Act.put, List.setIfInBounds_toArray, List.set_cons_zero, List.set_cons_succ]
          refine wpAnyH_done (by kernel_rfl) ?_ _
          refine NoPanic.normal ?_
        all_goals clear g0 g1 g2 g3 g4 g5 g6 g7 g8 g9 g10 g11 gy
        all_goals go_wp2_with fail
        all_goals go_meet
        · exact ⟨o3, a3, c3, p3, d3, n3, _, rfl, rfl, HT3, heap_set12 HNew.out, HR3.out.far gr_set12 (fun q hq => by have := HNF.out q hq; omega) (no8 HNew.out), (fun q hq => by have := HF3.out q hq; omega), below_set12 hS3 (Nat.le_refl _)⟩
        · exact ⟨o3, a3, c3, p3, d3, n3, _, rfl, rfl, HT3, heap_alloc_new u3 _, HR3.out.below (al (Below.refl _ _) _), (fun q hq => by have := HF3.out q hq; omega), al hS3 _⟩
      obtain ⟨o3, a3, c3, p3, d3, n3, cb, rfl, rfl, HT3, hC3, HR3, HF3, HB3⟩ := hcut
      have hBc := box_on hB HB3.out
      have HGc : Hid (W2.grownBy wc (some g)) := gr_below HG.out HB3.out
      have hykc := (HB3.out.cell (p := ⟨yb, yo + k, none⟩) (World.block_lt_of_cell? wr _ HYK.out)).trans HYK.out
      clear hyk
      rcases HE.out.age HT3.out with ⟨h6, hmx⟩ | ⟨h0, hmx, hE3⟩
      · subst h6
        have dI : decide ((y : Int) ≤ 281474976710655 - (m : Int)) = false := decide_eq_false (by omega)
        have hRc := HR.out.below HB3.out
        obtain ⟨x0, x1, x2, x3, x4, x5, x6, x7, x8, x9, x10, x11, -⟩ := cells12 hBc
        go_wp2_with fail
        clear x0 x1 x2 x3 x4 x5 x6 x7 x8 x9 x10 x11
        refine (HE.out.age_t ba bc pa pc wc hRc).mono ?_
        rintro e t1 ⟨rfl, hbt1⟩
        go_wp2
        go_roundw
        case rel => exact ⟨k + 1, m, b, ba, bc, pa, pc, by omega, by go_num, rfl, HE, box_on hBc hbt1, hRc.below hbt1, gr_below HGc.out hbt1⟩
        case measure => simp [intOf]; omega
      · subst h0
        have dI : decide ((y : Int) ≤ 281474976710655 - (m : Int)) = true := decide_eq_true (by omega)
        have HE3 : Hid (Eb f.st.toNat f.tm f.sq f.lf f.d 0 (m + y) o3) := hE3
        obtain ⟨x0, x1, x2, x3, x4, x5, x6, x7, x8, x9, x10, x11, -⟩ := cells12 hC3
        obtain ⟨y0, y1, y2, y3, y4, y5, y6, y7, y8, y9, y10, y11, z0, z1, z2, z3, z4, z5, z6, z7, z8, z9, z10, z11⟩ := cells12 hBc
        obtain ⟨U, hU⟩ : ∃ U : World, U = ((((((((((((wc.setCell ⟨g, 0, none⟩ (.int .u64 o3.fl)).setCell ⟨g, 1, none⟩ (.int .u64 o3.e0)).setCell ⟨g, 2, none⟩ (.int .u64 o3.e1)).setCell ⟨g, 3, none⟩ (.int .u64 o3.e2)).setCell ⟨g, 4, none⟩ (.int .u64 o3.e3)).setCell ⟨g, 5, none⟩ (.int .u64 o3.e4)).setCell ⟨g, 6, none⟩ (.int .u64 o3.e5)).setCell ⟨g, 7, none⟩ (.int .u64 o3.tm)).setCell ⟨g, 8, none⟩ (.int .u64 o3.sq)).setCell ⟨g, 9, none⟩ (.int .u64 o3.lf)).setCell ⟨g, 10, none⟩ (.slice a3 o3.bl.length c3)).setCell ⟨g, 11, none⟩ (.slice p3 o3.py.length d3)) := ⟨_, rfl⟩
        have HP := put12 hBc HR3.out (fun q hq => by have := HF3.out q hq; omega)
        rw [← hU] at HP
        obtain ⟨hBU, hRU, hGU⟩ := HP
        have HRU : Hid (BunR U o3 a3 c3 p3 d3) := hRU
        have HGU : Hid (W2.grownBy U (some g)) := grown_add HGc.out hGU (.inl rfl)
        clear hRU hGU hE3
        go_wp2_with fail
        rw [← hU]
        clear x0 x1 x2 x3 x4 x5 x6 x7 x8 x9 x10 x11 y0 y1 y2 y3 y4 y5 y6 y7 y8 y9 y10 y11 z0 z1 z2 z3 z4 z5 z6 z7 z8 z9 z10 z11 hU
        refine (HE3.out.age_t a3 c3 p3 d3 U HRU.out).mono ?_
        rintro e t1 ⟨rfl, hbt1⟩
        go_wp2
        go_roundw
        case rel => exact ⟨k + 1, m + y, o3, a3, c3, p3, d3, by omega, by go_num, by go_num, HE3, box_on hBU hbt1, HRU.out.below hbt1, gr_below HGU.out hbt1⟩
        case measure => simp [intOf]; omega
    · go_wp2_with fail
      clear hyl hy hlt
      go_loopw [13] (fun i wr => ∃ (k : Nat) (b : Bun) (ba : Option Addr) (bc : Nat) (pa : Option Addr) (pc : Nat), k ≤ 8 ∧ i = .int .i64 k ∧ Hid (Eb f.st.toNat f.tm f.sq f.lf f.d k m b) ∧ wr.heap[g]? = some (.cells #[.int .u64 b.fl, .int .u64 b.e0, .int .u64 b.e1, .int .u64 b.e2, .int .u64 b.e3, .int .u64 b.e4, .int .u64 b.e5, .int .u64 b.tm, .int .u64 b.sq, .int .u64 b.lf, .slice ba b.bl.length bc, .slice pa b.py.length pc] 34 (0, 0)) ∧ Hid (BunR wr b ba bc pa pc) ∧ Hid (W2.grownBy wr (some g))) (fun i _ => 8 - (intOf i).toNat)
      case atStart => exact ⟨0, b, ba, bc, pa, pc, Nat.zero_le _, rfl, HE, hB, HR, HG⟩
      case round =>
        clear HE hB HR HG hgl hbwr hWr
        obtain ⟨k2, b, ba, bc, pa, pc, hk2, rfl, HE, hB, HR, HG⟩ := hrel
        have hbwr : Below w.heap.size w wr := hbw2.grown HG.out hbw2.size (fun j hj => by cases hj; omega)
        have hgl : g < wr.heap.size := (Array.getElem?_eq_some_iff.1 hB).1
        by_cases hlt : k2 < 8
        · obtain ⟨x0, x1, x2, x3, x4, x5, x6, x7, x8, x9, x10, x11, -⟩ := cells12 hB
          go_wp2_with fail
          clear x0 x1 x2 x3 x4 x5 x6 x7 x8 x9 x10 x11
          refine (hop_any b ba bc pa pc wr HR.out).mono ?_
          rintro e u1 ⟨⟨o, a1, c1, p1, d1, n1, rfl, ht1, hR1, hf1⟩, hb1⟩
          rcases HE.out.hop ht1 with ⟨-, h8⟩ | ⟨h0, -, hE1⟩
          · omega
          subst h0
          have HE1 : Hid (Eb f.st.toNat f.tm f.sq f.lf f.d (k2 + 1) m o) := hE1
          have HR1 : Hid (BunR u1 o a1 c1 p1 d1) := hR1
          have HF1 : Hid (∀ q, a1 = some q → wr.heap.size ≤ q.block) := hf1
          clear ht1 hR1 hf1 hE1
          unfold bunV
          obtain ⟨U1, hU1⟩ : ∃ U1 : World, U1 = u1.alloc (.cells #[.int .u64 o.fl, .int .u64 o.e0, .int .u64 o.e1, .int .u64 o.e2, .int .u64 o.e3, .int .u64 o.e4, .int .u64 o.e5, .int .u64 o.tm, .int .u64 o.sq, .int .u64 o.lf, .slice a1 o.bl.length c1, .slice p1 o.py.length d1] 34) := ⟨_, rfl⟩
          have hC : U1.heap[u1.heap.size]? = some (.cells #[.int .u64 o.fl, .int .u64 o.e0, .int .u64 o.e1, .int .u64 o.e2, .int .u64 o.e3, .int .u64 o.e4, .int .u64 o.e5, .int .u64 o.tm, .int .u64 o.sq, .int .u64 o.lf, .slice a1 o.bl.length c1, .slice p1 o.py.length d1] 34 (0, 0)) := by rw [hU1]; exact heap_alloc_new u1 _
          have hbU1 : Below u1.heap.size u1 U1 := by rw [hU1]; exact al (Below.refl _ _) _
          have hbU1' := below_next hb1 hbU1
          have hBU1 := box_on hB hbU1'
          obtain ⟨cb, hcb⟩ : ∃ cb, cb = u1.heap.size := ⟨_, rfl⟩
          go_upto_region 27 with fail
          rw [← hU1, ← hcb]
          rw [← hcb] at hC
          clear hU1 hcb
          obtain ⟨x0, x1, x2, x3, x4, x5, x6, x7, x8, x9, x10, x11, -⟩ := cells12 hC
          obtain ⟨y0, y1, y2, y3, y4, y5, y6, y7, y8, y9, y10, y11, z0, z1, z2, z3, z4, z5, z6, z7, z8, z9, z10, z11⟩ := cells12 hBU1
          have HP := put12 hBU1 (HR1.out.below hbU1) (fun q hq => by have := HF1.out q hq; omega)
          have HQ : Hid _ := HP
          clear HP
          go_wp2
          go_roundw
          case rel => exact ⟨k2 + 1, o, a1, c1, p1, d1, by omega, by go_num, HE1, HQ.out.1, HQ.out.2.1, grown_add (gr_below HG.out hbU1') HQ.out.2.2 (.inl rfl)⟩
          case measure => simp [intOf]; omega
        · obtain rfl : k2 = 8 := by omega
          obtain ⟨x0, x1, x2, x3, x4, x5, x6, x7, x8, x9, x10, x11, -⟩ := cells12 hB
          go_wp2_with fail
          clear x0 x1 x2 x3 x4 x5 x6 x7 x8 x9 x10 x11
          refine (hop_any b ba bc pa pc wr HR.out).mono ?_
          rintro e u1 ⟨⟨o, a1, c1, p1, d1, n1, rfl, ht1, -, -⟩, hb1⟩
          rcases HE.out.hop ht1 with ⟨h6, -⟩ | ⟨-, h8, -⟩
          rotate_left
          · omega
          subst h6
          clear ht1
          unfold bunV
          obtain ⟨x0, x1, x2, x3, x4, x5, x6, x7, x8, x9, x10, x11, -⟩ := cells12 (box_on hB hb1)
          go_wp2_with fail
          clear x0 x1 x2 x3 x4 x5 x6 x7 x8 x9 x10 x11
          refine (HE.out.age_t ba bc pa pc u1 (HR.out.below hb1)).mono ?_
          rintro e t1 ⟨rfl, hbt1⟩
          go_wp2
          go_ret
          exact ⟨rfl, below_next hbwr (below_next hb1 hbt1)⟩
end Go.Proofs.Ytdpkommmkcmifaa
