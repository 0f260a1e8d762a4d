import Derived.Test.YtiedgcanndgmoaaGreatDoorYA
import Derived.Test.YtiedgcanndgmoaaGreatDoorXG
namespace Go.Proofs.YtiedgcanndgmoaaGreatDoor
set_option linter.unusedVariables false
set_option linter.unusedSimpArgs false
open Go.RowKit Go.Maps
/-! the statement's own book -/
abbrev tBo : TypeId := 34
abbrev tBs : TypeId := 48
abbrev KBs : Kd Xe := { t := tBs, ts := 32, k := 4, by_ := 32, f := xev, z := .agg #[.int .u64 0, .int .i64 0, .int .u64 0, .int .u64 0], hk := fun _ => rfl, h1 := (fun d u hu => by simp at hu; rcases hu with rfl | rfl | rfl | rfl <;> rfl), hpos := by decide, ht := Tryz.underlying32, hi := by kernel_rfl, hz := rfl }
abbrev cellsB (s : Xs) (v : Value) : Array Value := #[v, .int .u64 (s.clk : Int)]
structure Bk (w : World) (q : Nat) (v : Value) (s : Xs) : Prop where
  blk : w.heap[q]? = some (.cells (cellsB s v) tBo (0, 0))
  row : OwnG KBs w 0 v s.L
  inv : XInv s
abbrev xes (x : Xe) : Value := .agg #[.int .u64 (x.n : Int), .int .i64 x.k.1, .int .u64 (x.k.2 : Int), .int .u64 (x.ov : Int)]
abbrev xe0 : Value := .agg #[.int .u64 0, .int .i64 0, .int .u64 0, .int .u64 0]
/-- what of and numbered answer -/
def FindB {β : Type} (f : Xe → β) (L : List Xe) (b : β) (e : Ending) : Prop := (∃ x, x ∈ L ∧ f x = b ∧ e = .returned (.tuple #[xes x, .bool true])) ∨ (b ∉ L.map f ∧ e = .returned (.tuple #[xe0, .bool false]))
section
variable {w w' : World} {q : Nat} {v v' v'' : Value} {s : Xs}
theorem Bk.ql (h : Bk w q v s) : q < w.heap.size := (Array.getElem?_eq_some_iff.1 h.blk).1
theorem Bk.lt (h : Bk w q v s) {b : Nat} (hb : footR q v b) : b < w.heap.size := by
  rcases hb with rfl | hb
  · exact h.ql
  · exact (h.row.lt' hb).2
theorem Bk.qv (h : Bk w q v s) : ∀ b, v.ownBlock = some b → b ≠ q := fun b hb e => by
  obtain ⟨cur, h9⟩ := h.row.at_ hb
  rw [e, h.blk] at h9
  injection h9 with h9
  injection h9 with h9 h8
  exact absurd h8 (by decide)
theorem Bk.chg {G : Nat → Prop} (h : Bk w q v s) (hc : Chg G w w') (hG : ∀ b, footR q v b → ¬ G b) : Bk w' q v s :=
  ⟨(hc.block q h.ql (hG q (.inl rfl))).trans h.blk, h.row.kept (fun b hb => hc.block b (h.row.lt' hb).2 (hG b (.inr hb))), h.inv⟩
theorem Bk.below (h : Bk w q v s) (hb : Below w.heap.size w w') : Bk w' q v s := h.chg (Chg.of_below (F := fun _ => False) hb) (fun _ _ h => h)
theorem Bk.cell (h : Bk w q v s) (i : Nat) : w.cell? ⟨q, i, none⟩ = (cellsB s v)[i]? := by rw [cell_of_row _ _ _ _ _ _ h.blk]
theorem Bk.frz (h : Bk w q v s) (i : Nat) : w.frozen? ⟨q, i, none⟩ = false := by simp [World.frozen?, h.blk]
theorem Bk.of_eq (h : Bk w q v s) {t : Xs} (h1 : t.mtu = s.mtu) (h2 : t.ack = s.ack) (h3 : t.ep = s.ep) (h4 : t.clk = s.clk) (h5 : t.L = s.L) (hi : XInv t) : Bk w q v t := by
  refine ⟨?_, ?_, hi⟩
  · have h9 := h.blk
    unfold cellsB at h9 ⊢
    rw [h4]
    exact h9
  · rw [h5]; exact h.row
theorem Bk.setClk (h : Bk w q v s) (c : Nat) (hc : s.clk ≤ c) (hm : c ≤ mxX) : Bk (w.setCell ⟨q, 1, none⟩ (.int .u64 (c : Int))) q v { s with clk := c } := by
  refine ⟨heap_setCell_same w q 1 (cellsB s v) tBo _ h.blk, h.row.kept (fun b hb => heap_setCell_other w ⟨q, 1, none⟩ b _ (h.qv b hb)), ?_⟩
  have i := h.inv
  exact ⟨i.mt, i.ak, i.e, hm, Nat.le_trans i.nc hc, i.len, i.num, i.good, i.nn, i.nk, i.od, i.le, i.op, fun x hx => by have := i.ov x hx; show x.ov ≤ min (c + s.ack) mxX; omega, i.at_⟩
/-- the row of sessions is another one -/
theorem Bk.setRow (h : Bk w q v s) (hc : Chg (fun b => v.ownBlock = some b) w w') {L' : List Xe} (hr : OwnG KBs w' 0 v' L') (hv : ∀ b, v'.ownBlock = some b → v.ownBlock = some b ∨ w.heap.size ≤ b) (hi : XInv { s with L := L' }) : Bk (w'.setCell ⟨q, 0, none⟩ v') q v' { s with L := L' } ∧ RxStp w (w'.setCell ⟨q, 0, none⟩ v') q v v' := by
  have hb := (hc.block q h.ql (fun e => h.qv q e rfl)).trans h.blk
  have hq : ∀ b, v'.ownBlock = some b → b ≠ q := fun b hb e => by
    rcases hv b hb with h1 | h1
    · exact h.qv b h1 e
    · have := h.ql; omega
  refine ⟨⟨heap_setCell_same w' q 0 (cellsB s v) tBo _ hb, hr.kept (fun b hb => heap_setCell_other w' ⟨q, 0, none⟩ b _ (hq b hb)), hi⟩, ?_, ?_⟩
  · exact (hc.mono (fun b e => .inr e)).trans (Chg.of_grown (F := fun b => b = q) (gset1 w' q 0 v') (fun b e => (Option.some.inj e).symm)) (fun i e => .inl (.inl e))
  · rintro b (rfl | hb)
    · exact .inl (.inl rfl)
    · rcases hv b hb with h1 | h1
      · exact .inl (.inr h1)
      · exact .inr h1
set_option maxRecDepth 20000
set_option maxHeartbeats 3200000
theorem bon_t (h : Bk w q v s) (x : Nat) : Calls Tryz.prog 7 #[.pointer (some ⟨q, 0, none⟩), .int .u64 (x : Int)] w fun e w' => e = .returned (.tuple #[]) ∧ Bk w' q v { s with clk := max s.clk (min x mxX) } ∧ RxStp w w' q v v := by
  have hc : w.cell? ⟨q, 1, none⟩ = some (.int .u64 (s.clk : Int)) := h.cell 1
  have hf := h.frz 1
  have HX : Hid (Bk (w.setCell ⟨q, 1, none⟩ (.int .u64 ((max s.clk (min x mxX) : Nat) : Int))) q v { s with clk := max s.clk (min x mxX) }) := h.setClk _ (Nat.le_max_left _ _) (by have := h.inv.c; omega)
  have HM : Hid (((max s.clk (min x mxX) : Nat) : Int) = max (s.clk : Int) (min (x : Int) 281474976710655)) := by unfold Hid mxX; omega
  clear h
  go_enter Tryz.func7, Tryz.ntmps7
  go_wp2
  go_end0
  rw [← HM.out]
  exact ⟨rfl, HX.out, Chg.of_grown (gset1 _ _ _ _) (fun b e => .inl (Option.some.inj e).symm), fun _ h => .inl h⟩
end
end Go.Proofs.YtiedgcanndgmoaaGreatDoor
namespace Go.Proofs.YtiedgcanndgmoaaGreatDoor
set_option linter.unusedVariables false
set_option linter.unusedSimpArgs false
open Go.RowKit Go.Maps
section
variable {w w' : World} {q : Nat} {v v' v'' : Value} {s : Xs}
set_option maxRecDepth 20000
set_option maxHeartbeats 3200000
theorem below_set {B : Nat} {w u : World} (hb : Below B w u) (hl : B ≤ u.heap.size) (P i : Nat) (hP : B ≤ P) (a : Value) : Below B w (u.setCell ⟨P, i, none⟩ a) ∧ B ≤ (u.setCell ⟨P, i, none⟩ a).heap.size :=
  have h := hb.grown (gset1 u P i a) hl (fun j hj => by have := Option.some.inj hj; omega)
  ⟨h, Nat.le_trans hl (gset1 u P i a).size⟩
theorem below_set4 {B : Nat} {w u : World} (hb : Below B w u) (hl : B ≤ u.heap.size) (P : Nat) (hP : B ≤ P) (a b c d : Value) : Below B w ((((u.setCell ⟨P, 0, none⟩ a).setCell ⟨P, 1, none⟩ b).setCell ⟨P, 2, none⟩ c).setCell ⟨P, 3, none⟩ d) := by
  have h1 := below_set hb hl P 0 hP a
  have h2 := below_set h1.1 h1.2 P 1 hP b
  have h3 := below_set h2.1 h2.2 P 2 hP c
  exact (below_set h3.1 h3.2 P 3 hP d).1
theorem bnum_t (h : Bk w q v s) (z : Nat) : Calls Tryz.prog 10 #[.pointer (some ⟨q, 0, none⟩), .int .u64 (z : Int)] w fun e w' => FindB Xe.n s.L z e ∧ Below w.heap.size w w' := by
  obtain ⟨w1, hw1⟩ : ∃ w1, w1 = w.alloc (.cells #[.int .u64 0, .int .i64 0, .int .u64 0, .int .u64 0] tBs) := ⟨_, rfl⟩
  have hb1 : Below w.heap.size w w1 := by rw [hw1]; exact alw (Below.refl _ _) _
  have hM1 := h.below hb1
  have hc0 : w1.cell? ⟨q, 0, none⟩ = some v := hM1.cell 0
  have hbx : w1.heap[w.heap.size]? = some (.cells #[.int .u64 0, .int .i64 0, .int .u64 0, .int .u64 0] tBs (0, 0)) := by rw [hw1]; exact heap_alloc_new w _
  have b0 : w1.cell? ⟨w.heap.size, 0, none⟩ = some (.int .u64 0) := by rw [cell_of_row _ _ _ _ _ _ hbx]; rfl
  have b1 : w1.cell? ⟨w.heap.size, 1, none⟩ = some (.int .i64 0) := by rw [cell_of_row _ _ _ _ _ _ hbx]; rfl
  have b2 : w1.cell? ⟨w.heap.size, 2, none⟩ = some (.int .u64 0) := by rw [cell_of_row _ _ _ _ _ _ hbx]; rfl
  have b3 : w1.cell? ⟨w.heap.size, 3, none⟩ = some (.int .u64 0) := by rw [cell_of_row _ _ _ _ _ _ hbx]; rfl
  have f0 : w1.frozen? ⟨w.heap.size, 0, none⟩ = false := by simp [World.frozen?, hbx]
  have f1 : w1.frozen? ⟨w.heap.size, 1, none⟩ = false := by simp [World.frozen?, hbx]
  have f2 : w1.frozen? ⟨w.heap.size, 2, none⟩ = false := by simp [World.frozen?, hbx]
  have f3 : w1.frozen? ⟨w.heap.size, 3, none⟩ = false := by simp [World.frozen?, hbx]
  obtain ⟨a, cp, hv, -, -, -, hrd⟩ := OwnG.val hM1.row
  have HR : Hid (RdG KBs w1 a s.L) := hrd
  have HBX : Hid _ := hbx
  have HW1 : Hid (w1 = _) := hw1
  have HB1 : Hid _ := hb1
  have hl := h.inv.len
  subst hv
  obtain ⟨n, hn⟩ : ∃ n, n = s.L.length := ⟨_, rfl⟩
  rw [← hn] at hc0 hl
  have HN : Hid (n = s.L.length) := hn
  clear h hn hrd hM1 hw1 hb1 hbx
  go_enter Tryz.func10, Tryz.ntmps10
  go_wp2
  rw [← HW1.out]
  go_loopw [6] (fun j wr => ∃ k : Nat, k ≤ n ∧ j = .int .i64 (k : Int) ∧ wr = w1 ∧ Hid (z ∉ (s.L.map Xe.n).take k)) (fun j _ => n - (intOf j).toNat)
  case atStart => exact ⟨0, Nat.zero_le _, rfl, by first | rfl | trivial, by unfold Hid; simp⟩
  case round =>
    obtain ⟨k, hkn, rfl, hq, HNO⟩ := hrel
    have hq := hq.symm
    subst hq
    have hkw : IntKind.i64.wrap ((k : Int) + 1) = ((k + 1 : Nat) : Int) := by rw [IntKind.wrap_i64]; omega
    by_cases hlt : k < n
    · have hlti : (k : Int) < (n : Int) := by omega
      have hk0 : (0 : Int) ≤ (k : Int) := by omega
      have hk1 : k < s.L.length := by rw [← HN.out]; exact hlt
      obtain ⟨b, o, rfl, r1, -⟩ := HR.out k hk1
      obtain ⟨x, hx⟩ : ∃ x : Xe, x = s.L[k] := ⟨_, rfl⟩
      have g0 := r1 0 (.int .u64 (x.n : Int)) (by rw [hx]; rfl)
      rw [Nat.add_zero] at g0
      have g1 := r1 1 (.int .i64 x.k.1) (by rw [hx]; rfl)
      have g2 := r1 2 (.int .u64 (x.k.2 : Int)) (by rw [hx]; rfl)
      have g3 := r1 3 (.int .u64 (x.ov : Int)) (by rw [hx]; rfl)
      have HX : Hid _ := hx
      by_cases he : x.n = z
      · have HE : Hid (x ∈ s.L ∧ x.n = z) := ⟨by rw [HX.out]; exact List.getElem_mem hk1, he⟩
        have hei : ((x.n : Int) == (z : Int)) = true := by simp; omega
        clear r1 hx HX he hk1 HNO
        go_wp2
        refine bodyPost_ret (v := .tuple #[xes x, .bool true]) (by have h9 := HBX.out; simp [results, Tryz.results10, go_sem, cell_of_row _ _ _ _ _ _ h9]) rfl ⟨.inl ⟨x, HE.out.1, HE.out.2, rfl⟩, ?_⟩
        exact below_set4 HB1.out HB1.out.size _ (Nat.le_refl _) _ _ _ _
      · have hei : ((x.n : Int) == (z : Int)) = false := by simp; omega
        have HNX : Hid (z ∉ (s.L.map Xe.n).take (k + 1)) := by
          unfold Hid
          have hk2 : k < (s.L.map Xe.n).length := by rw [List.length_map]; exact hk1
          rw [List.take_succ_eq_append_getElem hk2, List.mem_append, List.mem_singleton]
          rintro (h9 | h9)
          · exact HNO.out h9
          · exact he ((congrArg Xe.n HX.out).trans (h9.trans (List.getElem_map _)).symm)
        clear r1 hx HX hk1 he HNO
        go_wp2
        go_roundw
        case rel => exact ⟨k + 1, by omega, by go_num, by first | rfl | trivial, HNX⟩
        case measure => simp [intOf]; omega
    · have hlti : ¬ (k : Int) < (n : Int) := by omega
      have HNM : Hid (z ∉ s.L.map Xe.n) := by
        have h9 := HNO.out
        rw [List.take_of_length_le (by rw [List.length_map, ← HN.out]; omega)] at h9
        exact h9
      clear HNO
      go_wp2
      refine bodyPost_ret (v := .tuple #[xe0, .bool false]) (by have h9 := HBX.out; simp [results, Tryz.results10, go_sem, cell_of_row _ _ _ _ _ _ h9]) rfl ⟨.inr ⟨HNM.out, rfl⟩, ?_⟩
      exact below_set4 HB1.out HB1.out.size _ (Nat.le_refl _) _ _ _ _
end
end Go.Proofs.YtiedgcanndgmoaaGreatDoor
namespace Go.Proofs.YtiedgcanndgmoaaGreatDoor
set_option linter.unusedVariables false
set_option linter.unusedSimpArgs false
open Go.RowKit Go.Maps
section
variable {w w' : World} {q : Nat} {v v' v'' : Value} {s : Xs}
set_option maxRecDepth 20000
set_option maxHeartbeats 3200000
theorem bof_t (h : Bk w q v s) (kk : Fk) : Calls Tryz.prog 9 #[.pointer (some ⟨q, 0, none⟩), fv kk] w fun e w' => FindB Xe.k s.L kk e ∧ Below w.heap.size w w' := by
  obtain ⟨s1, s2⟩ := kk
  obtain ⟨w0, hw0⟩ : ∃ w0, w0 = w.alloc (.cells #[.int .i64 s1, .int .u64 (s2 : Int)] tFk) := ⟨_, rfl⟩
  have hb0 : Below w.heap.size w w0 := by rw [hw0]; exact alw (Below.refl _ _) _
  have hz0 : w0.heap.size = w.heap.size + 1 := by rw [hw0]; simp
  obtain ⟨w1, hw1⟩ : ∃ w1, w1 = w0.alloc (.cells #[.int .u64 0, .int .i64 0, .int .u64 0, .int .u64 0] tBs) := ⟨_, rfl⟩
  have hb1 : Below w.heap.size w w1 := by rw [hw1]; exact alw hb0 _
  have hb01 : Below w0.heap.size w0 w1 := by rw [hw1]; exact alw (Below.refl _ _) _
  have hkb := keyBoxF w (s1, s2)
  have hM1 := h.below hb1
  have hk : ∀ u, Below w1.heap.size w1 u → u.cell? ⟨w.heap.size, 0, none⟩ = some (.int .i64 s1) ∧ u.cell? ⟨w.heap.size, 1, none⟩ = some (.int .u64 (s2 : Int)) ∧ u.cell? ⟨q, 0, none⟩ = some v := fun u hu => by
    have h9 := hkb u (by rw [← hw0, ← hz0]; exact below_next hb01 hu)
    exact ⟨h9.1, h9.2.1, (hM1.below hu).cell 0⟩
  have hbx1 : w1.heap[w.heap.size + 1]? = some (.cells #[.int .u64 0, .int .i64 0, .int .u64 0, .int .u64 0] tBs (0, 0)) := by rw [hw1, ← hz0]; exact heap_alloc_new w0 _
  have hbx : ∀ u, Below w1.heap.size w1 u → u.heap[w.heap.size + 1]? = some (.cells #[.int .u64 0, .int .i64 0, .int .u64 0, .int .u64 0] tBs (0, 0)) := fun u hu => (hu.block _ (Array.getElem?_eq_some_iff.1 hbx1).1).trans hbx1
  have hbc : ∀ u : World, u.heap[w.heap.size + 1]? = some (.cells #[.int .u64 0, .int .i64 0, .int .u64 0, .int .u64 0] tBs (0, 0)) → (u.cell? ⟨w.heap.size + 1, 0, none⟩ = some (.int .u64 0) ∧ u.cell? ⟨w.heap.size + 1, 1, none⟩ = some (.int .i64 0) ∧ u.cell? ⟨w.heap.size + 1, 2, none⟩ = some (.int .u64 0) ∧ u.cell? ⟨w.heap.size + 1, 3, none⟩ = some (.int .u64 0)) ∧ u.frozen? ⟨w.heap.size + 1, 0, none⟩ = false ∧ u.frozen? ⟨w.heap.size + 1, 1, none⟩ = false ∧ u.frozen? ⟨w.heap.size + 1, 2, none⟩ = false ∧ u.frozen? ⟨w.heap.size + 1, 3, none⟩ = false := fun u hu => by
    refine ⟨⟨?_, ?_, ?_, ?_⟩, ?_, ?_, ?_, ?_⟩
    iterate 4 (focus (rw [cell_of_row _ _ _ _ _ _ hu]; rfl))
    all_goals simp [World.frozen?, hu]
  obtain ⟨a, cp, hv, -, -, -, hrd⟩ := OwnG.val hM1.row
  have HR : Hid (RdG KBs w1 a s.L) := hrd
  have HW1 : Hid (w1 = (w.alloc (.cells #[.int .i64 s1, .int .u64 (s2 : Int)] tFk)).alloc (.cells #[.int .u64 0, .int .i64 0, .int .u64 0, .int .u64 0] tBs)) := by rw [← hw0]; exact hw1
  have HB1 : Hid _ := hb1
  have hl := h.inv.len
  subst hv
  obtain ⟨n, hn⟩ : ∃ n, n = s.L.length := ⟨_, rfl⟩
  rw [← hn] at hk hl
  have HN : Hid (n = s.L.length) := hn
  clear h hkb hb1 hb0 hz0 hw1 hw0 hn hM1 hrd hb01 hbx1
  go_enter Tryz.func9, Tryz.ntmps9
  go_wp2
  rw [← HW1.out]
  go_loopw [6] (fun j wr => ∃ k : Nat, k ≤ n ∧ j = .int .i64 (k : Int) ∧ Below w1.heap.size w1 wr ∧ Hid ((s1, s2) ∉ (s.L.map Xe.k).take k)) (fun j _ => n - (intOf j).toNat)
  case atStart => exact ⟨0, Nat.zero_le _, rfl, Below.refl _ _, by unfold Hid; simp⟩
  case round =>
    obtain ⟨k, hkn, rfl, hbw, HNO⟩ := hrel
    have hkw : IntKind.i64.wrap ((k : Int) + 1) = ((k + 1 : Nat) : Int) := by rw [IntKind.wrap_i64]; omega
    have hkr := hk wr hbw
    by_cases hlt : k < n
    · have hlti : (k : Int) < (n : Int) := by omega
      have hk0 : (0 : Int) ≤ (k : Int) := by omega
      have hk1 : k < s.L.length := by rw [← HN.out]; exact hlt
      obtain ⟨b, o, rfl, r1, -⟩ := HR.out k hk1
      obtain ⟨x, hx⟩ : ∃ x : Xe, x = s.L[k] := ⟨_, rfl⟩
      have g0 := r1 0 (.int .u64 (x.n : Int)) (by rw [hx]; rfl)
      rw [Nat.add_zero] at g0
      have g1 := r1 1 (.int .i64 x.k.1) (by rw [hx]; rfl)
      have g2 := r1 2 (.int .u64 (x.k.2 : Int)) (by rw [hx]; rfl)
      have g3 := r1 3 (.int .u64 (x.ov : Int)) (by rw [hx]; rfl)
      have hc : ∀ u, Below w1.heap.size w1 u → u.cell? ⟨b, o + k * 4 + 1, none⟩ = some (.int .i64 x.k.1) ∧ u.cell? ⟨b, o + k * 4 + 1 + 1, none⟩ = some (.int .u64 (x.k.2 : Int)) := fun u hu => ⟨(hu.cell (World.block_lt_of_cell? _ _ g1)).trans g1, (hu.cell (World.block_lt_of_cell? _ _ g2)).trans g2⟩
      have hc4 : ∀ u, Below w1.heap.size w1 u → u.cell? ⟨b, o + k * 4, none⟩ = some (.int .u64 (x.n : Int)) ∧ u.cell? ⟨b, o + k * 4 + 1, none⟩ = some (.int .i64 x.k.1) ∧ u.cell? ⟨b, o + k * 4 + 2, none⟩ = some (.int .u64 (x.k.2 : Int)) ∧ u.cell? ⟨b, o + k * 4 + 3, none⟩ = some (.int .u64 (x.ov : Int)) := fun u hu => ⟨(hu.cell (World.block_lt_of_cell? _ _ g0)).trans g0, (hu.cell (World.block_lt_of_cell? _ _ g1)).trans g1, (hu.cell (World.block_lt_of_cell? _ _ g2)).trans g2, (hu.cell (World.block_lt_of_cell? _ _ g3)).trans g3⟩
      have HX : Hid _ := hx
      have HBW : Hid _ := hbw
      have HXM : Hid (x ∈ s.L) := by unfold Hid; rw [hx]; exact List.getElem_mem hk1
      obtain ⟨xn, ⟨x1, x2⟩, xo, xv, xa⟩ := x
      by_cases he : (x1, x2) = (s1, s2)
      · have hq : ∀ u, (binOp .eql tFk (.agg #[.int .i64 x1, .int .u64 (x2 : Int)]) (.agg #[.int .i64 s1, .int .u64 (s2 : Int)])).run Tryz.prog u = .ok (.bool true) u := fun u => by rw [eql_fk]; cases he; simp
        have HE : Hid _ := he
        clear r1 g0 g1 g2 g3 hx HX he hk1 HNO
        go_wp2_with fail
        refine wp_region_noPanic ?_
        refine wp_region_held_drew (S := (fun u => Below w1.heap.size w1 u)) (by kernel_rfl) (by first | exact hbw.drew | assumption) (fun hHeld => ?_)
        refine tz (i := 0) 16 rfl rfl hHeld ?_
        simp only [pS]
        refine tz (i := 1) 17 rfl rfl hHeld ?_
        simp only [pS]
        refine tz (i := 2) 18 rfl rfl hHeld ?_
        simp only [pS]
        refine tz (i := 3) 19 rfl rfl hHeld ?_
        simp only [pS]
        refine tz (i := 4) 20 rfl rfl hHeld ?_
        simp only [pS]
        refine tz (i := 5) 21 rfl rfl hHeld ?_
        simp only [pS]
        refine tz (i := 6) 22 rfl rfl hHeld ?_
        simp only [pS]
        refine tz (i := 7) 23 rfl rfl hHeld ?_
        simp only [pS]
        refine tz (i := 8) 24 rfl rfl hHeld ?_
        simp only [pS]
        refine tz (i := 9) 25 rfl rfl hHeld ?_
        simp only [pS]
        refine wpAnyH_done (by kernel_rfl) ?_ _
        refine NoPanic.normal ?_
        obtain ⟨u9, hu9⟩ : ∃ u9, u9 = wr.drew := ⟨_, rfl⟩
        have HB9 : Hid (Below w1.heap.size w1 u9) := by unfold Hid; rw [hu9]; exact HBW.out.drew
        rw [← hu9]
        have hd4 := hc4 u9 HB9.out
        have hd0 := (hk u9 HB9.out).2.2
        have hdb := hbc u9 (hbx u9 HB9.out)
        clear hc hc4 hk hHeld hkr hu9 hbc
        go_wp2
        refine bodyPost_ret (v := .tuple #[xes ⟨xn, (x1, x2), xo, xv, xa⟩, .bool true]) (by have h9 := hbx u9 HB9.out; simp [results, Tryz.results9, go_sem, cell_of_row _ _ _ _ _ _ h9]) rfl ⟨.inl ⟨⟨xn, (x1, x2), xo, xv, xa⟩, HXM.out, HE.out, rfl⟩, ?_⟩
        exact below_set4 (below_next HB1.out HB9.out) (below_next HB1.out HB9.out).size _ (by omega) _ _ _ _
      · have hq : ∀ u, (binOp .eql tFk (.agg #[.int .i64 x1, .int .u64 (x2 : Int)]) (.agg #[.int .i64 s1, .int .u64 (s2 : Int)])).run Tryz.prog u = .ok (.bool false) u := fun u => by
          rw [eql_fk]
          have : ¬ (x1 = s1 ∧ (x2 : Int) = s2) := fun h9 => he (by rw [h9.1, show x2 = s2 by omega])
          simp [this]
        have HNX : Hid ((s1, s2) ∉ (s.L.map Xe.k).take (k + 1)) := by
          unfold Hid
          have hk2 : k < (s.L.map Xe.k).length := by rw [List.length_map]; exact hk1
          rw [List.take_succ_eq_append_getElem hk2, List.mem_append, List.mem_singleton]
          rintro (h9 | h9)
          · exact HNO.out h9
          · exact he ((congrArg Xe.k HX.out).trans (h9.trans (List.getElem_map _)).symm)
        clear r1 g0 g1 g2 g3 hx HX hk1 he HNO hc4 hbc
        go_wp2_with fail
        refine wp_region_noPanic ?_
        refine wp_region_held_drew (S := (fun u => Below w1.heap.size w1 u)) (by kernel_rfl) (by first | exact hbw.drew | assumption) (fun hHeld => ?_)
        refine tz (i := 0) 16 rfl rfl hHeld ?_
        simp only [pS]
        refine tz (i := 1) 17 rfl rfl hHeld ?_
        simp only [pS]
        refine tz (i := 2) 18 rfl rfl hHeld ?_
        simp only [pS]
        refine tz (i := 3) 19 rfl rfl hHeld ?_
        simp only [pS]
        refine tz (i := 4) 20 rfl rfl hHeld ?_
        simp only [pS]
        refine tz (i := 5) 21 rfl rfl hHeld ?_
        simp only [pS]
        refine tz (i := 6) 22 rfl rfl hHeld ?_
        simp only [pS]
        refine tz (i := 7) 23 rfl rfl hHeld ?_
        simp only [pS]
        refine tz (i := 8) 24 rfl rfl hHeld ?_
        simp only [pS]
        refine tz (i := 9) 25 rfl rfl hHeld ?_
        simp only [pS]
        refine wpAnyH_done (by kernel_rfl) ?_ _
        refine NoPanic.normal ?_
        go_wp2
        go_roundw
        case rel => exact ⟨k + 1, by omega, by go_num, HBW.out.drew, HNX⟩
        case measure => simp [intOf]; omega
    · have hlti : ¬ (k : Int) < (n : Int) := by omega
      have HNM : Hid ((s1, s2) ∉ s.L.map Xe.k) := by
        have h9 := HNO.out
        rw [List.take_of_length_le (by rw [List.length_map, ← HN.out]; omega)] at h9
        exact h9
      have HBW : Hid _ := hbw
      have hdb := hbc wr (hbx wr hbw)
      clear HNO hk
      go_wp2
      refine bodyPost_ret (v := .tuple #[xe0, .bool false]) (by have h9 := hbx wr HBW.out; simp [results, Tryz.results9, go_sem, cell_of_row _ _ _ _ _ _ h9]) rfl ⟨.inr ⟨HNM.out, rfl⟩, ?_⟩
      exact below_set4 (below_next HB1.out HBW.out) (below_next HB1.out HBW.out).size _ (by omega) _ _ _ _
end
end Go.Proofs.YtiedgcanndgmoaaGreatDoor
