import Derived.Test.YtpakkpahcpgnnaaGreatDoorFA
import Derived.Test.YtpakkpahcpgnnaaGreatDoorXA
set_option linter.unusedVariables false
set_option linter.unusedSimpArgs false
namespace Go.Proofs.YtpakkpahcpgnnaaGreatDoor
open Go.RowKit Go.Maps
section
variable {w w' : World} {P : Fp} {s : Fs} {W : List Wh.Tm}
set_option maxRecDepth 20000
set_option maxHeartbeats 1600000
theorem FSw.setClk (h : FSw w P s W) (c : Nat) (hc : s.clk ≤ c) (hm : c ≤ mxX) : FSw (w.setCell ⟨P.p, 5, none⟩ (.int .u64 (c : Int))) P { s with clk := c } W := by
 have hg := gset1 w P.p 5 (.int .u64 (c : Int)); have hk : ∀ b, b ≠ P.p → (w.setCell ⟨P.p, 5, none⟩ (.int .u64 (c : Int))).heap[b]? = w.heap[b]? := fun b hb => heap_setCell_other w ⟨P.p, 5, none⟩ b _ hb
 have hpm : P.ms ≠ P.p := fun e => by
  obtain ⟨es, cl, h1⟩ := h.mp.at_; rw [e, h.blk] at h1; cases h1
 have hpr : ∀ b, P.rv.ownBlock = some b → b ≠ P.p := fun b hb e => by
  obtain ⟨cur, h9⟩ := h.row.at_ hb; rw [e, h.blk] at h9
  injection h9 with h9
  injection h9 with h9 h8
  exact absurd h8 (by decide)
 have hpb : ∀ b, XV (P.R.map Prod.snd) b → b ≠ P.p := fun b hb e => by
  obtain ⟨C, h9⟩ := h.rb.ty hb; rw [e, h.blk] at h9
  injection h9 with h9
  injection h9 with h9 h8
  exact absurd h8 (by decide)
 have hps : ∀ (i : Nat) x m, s.L[i]? = some x → P.M[i]? = some m → ∀ b, footM m b → b ≠ P.p := fun i x m h1 h2 b hb e => by
  have hs := h.se i x m h1 h2; rw [e] at hb; rcases hb with hb | hb | hb | hb
  · have h9 := hs.box; rw [← hb, h.blk] at h9
    injection h9 with h9
    injection h9 with h9 h8
    exact absurd h8 (by decide)
  · obtain ⟨cur, h9⟩ := hs.seg.row.at_ hb; rw [h.blk] at h9
    injection h9 with h9
    injection h9 with h9 h8
    exact absurd h8 (by decide)
  · obtain ⟨C, h9⟩ := hs.seg.fml.ty hb; rw [h.blk] at h9
    injection h9 with h9
    injection h9 with h9 h8
    exact absurd h8 (by decide)
  · obtain ⟨cur, h9⟩ := hs.tol.atR hb; rw [h.blk] at h9
    injection h9 with h9
    injection h9 with h9 h8
    exact absurd h8 (by decide)
 have i := h.inv; refine ⟨heap_setCell_same w P.p 5 (cellsFx s P.rv P.ms P.pw) tFx _ h.blk, h.row.kept (fun b hb => hk b (hpr b hb)), h.rk, h.rb.kept (fun b hb => hk b (hpb b hb)), h.mp.kept (hk _ hpm), h.len, fun i x m h1 h2 => (h.se i x m h1 h2).kept (fun b hb => hk b (hps i x m h1 h2 b hb)), ?_, ⟨i.mt, i.rt, i.rs, i.wn, i.e, hm, Nat.le_trans i.nc hc, i.len, i.lw, i.num, i.up, i.good, i.nk, i.blk, i.seg, i.ag⟩, h.aw, h.am, h.ab⟩; exact h.wh.chg (chgV (Chg.of_grown (F := fun b => b = P.p) hg (fun b e => (Option.some.inj e).symm))) (fun b hb e => (h.aw b hb).1 e)
theorem fmade_t (h : FSw w P s W) : Calls Tryz.prog 34 #[.pointer (some ⟨P.p, 0, none⟩)] w fun e w' => e = .returned (.bool true) ∧ w' = w := by
 have hc : w.cell? ⟨P.p, 7, none⟩ = some (.map (some P.ms)) := h.cell 7; have hmn : ∀ u : World, (binOp .neq 89 (.map (some P.ms)) (.map none)).run Tryz.prog u = .ok (.bool true) u := fun u => by rfl
 clear h; go_enter Tryz.func34, Tryz.ntmps34
 go_wp2; go_ret; exact ⟨rfl, rfl⟩
theorem fgoOn_t (h : FSw w P s W) (x : Nat) : Calls Tryz.prog 40 #[.pointer (some ⟨P.p, 0, none⟩), .int .u64 (x : Int)] w fun e w' => e = .returned (.tuple #[]) ∧ FSw w' P { s with clk := max s.clk (min x mxX) } W ∧ FStp w w' P P := by
 have hc : w.cell? ⟨P.p, 5, none⟩ = some (.int .u64 (s.clk : Int)) := h.cell 5; have hf := h.frz 5; have HX : Hid (FSw (w.setCell ⟨P.p, 5, none⟩ (.int .u64 ((max s.clk (min x mxX) : Nat) : Int))) P { s with clk := max s.clk (min x mxX) } W) := h.setClk _ (Nat.le_max_left _ _) (by have := h.inv.c; omega); have HM : Hid (((max s.clk (min x mxX) : Nat) : Int) = max (s.clk : Int) (min (x : Int) 281474976710655)) := by unfold Hid mxX; omega
 have HS : Hid (∀ v, FStp w (w.setCell ⟨P.p, 5, none⟩ v) P P) := fun v => ⟨Chg.of_grown (gset1 w P.p 5 v) (fun b e => .inl (Option.some.inj e).symm), fun _ h => .inl h⟩
 clear h; go_enter Tryz.func40, Tryz.ntmps40
 go_wp2; go_end0; have h9 := HX.out; rw [HM.out] at h9; exact ⟨rfl, h9, HS.out _⟩
theorem fisNumber_t (n : Nat) (w : World) : Calls Tryz.prog 31 #[.int .u64 (n : Int)] w fun e w' => e = .returned (.bool (decide (1 ≤ n ∧ n ≤ mxX))) ∧ w' = w := by
 obtain ⟨d, hd⟩ : ∃ d, d = decide (1 ≤ n ∧ n ≤ mxX) := ⟨_, rfl⟩; rw [← hd]; have HE : Hid _ := hd; clear hd
 by_cases h1 : 1 ≤ n
 · have h2 : (1 : Int) ≤ (n : Int) := by omega
   have HD : Hid (decide ((n : Int) ≤ 281474976710655) = d) := by
    unfold Hid; rw [HE.out]; unfold mxX; apply decide_eq_decide.2; omega
   go_enter Tryz.func31, Tryz.ntmps31
   go_wp2; go_ret; rw [← HD.out]; exact ⟨rfl, rfl⟩
 · have h2 : ¬ (1 : Int) ≤ (n : Int) := by omega
   have HD : Hid (d = false) := HE.out.trans (decide_eq_false (fun h => h1 h.1)); go_enter Tryz.func31, Tryz.ntmps31
   go_wp2; go_ret; rw [HD.out]; exact ⟨rfl, rfl⟩
theorem fisGood_t (k : Fk) (w : World) : Calls Tryz.prog 35 #[fv k] w fun e w' => e = .returned (.bool (decide (0 ≤ k.1 ∧ k.1 < 8 ∧ k.2 ≤ mxX))) ∧ Below w.heap.size w w' := by
 obtain ⟨a, b⟩ := k; have HB : Hid (Below w.heap.size w (w.alloc (.cells #[.int .i64 a, .int .u64 (b : Int)] tFk))) := alx (bR _ _) (Nat.le_refl _) _; obtain ⟨d, hd⟩ : ∃ d, d = decide (0 ≤ a ∧ a < 8 ∧ b ≤ mxX) := ⟨_, rfl⟩; show Calls _ _ _ _ fun e w' => e = .returned (.bool (decide (0 ≤ a ∧ a < 8 ∧ b ≤ mxX))) ∧ _
 rw [← hd]; have HE : Hid _ := hd; clear hd
 by_cases h1 : 0 ≤ a
 · by_cases h2 : a < 8
   · have HD : Hid (decide ((b : Int) ≤ 281474976710655) = d) := by
      unfold Hid; rw [HE.out]; unfold mxX; apply decide_eq_decide.2; omega
     go_enter Tryz.func35, Tryz.ntmps35
     go_wp2; go_ret; rw [← HD.out]; exact ⟨rfl, HB.out⟩
   · have HD : Hid (d = false) := HE.out.trans <| decide_eq_false (fun h => h2 h.2.1)
     go_enter Tryz.func35, Tryz.ntmps35
     go_wp2; go_ret; rw [HD.out]; exact ⟨rfl, HB.out⟩
 · have HD : Hid (d = false) := HE.out.trans <| decide_eq_false (fun h => h1 h.1)
   go_enter Tryz.func35, Tryz.ntmps35
   go_wp2; go_ret; rw [HD.out]; exact ⟨rfl, HB.out⟩
end
end Go.Proofs.YtpakkpahcpgnnaaGreatDoor
