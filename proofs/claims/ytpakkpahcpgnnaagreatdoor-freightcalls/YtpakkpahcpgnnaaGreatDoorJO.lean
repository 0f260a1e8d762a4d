import Derived.Test.YtpakkpahcpgnnaaGreatDoorJG
set_option linter.unusedVariables false
set_option linter.unusedSimpArgs false
namespace Go.Proofs.YtpakkpahcpgnnaaGreatDoor
open Go.RowKit Go.Maps
section
variable {w w' : World}
set_option maxRecDepth 20000
set_option maxHeartbeats 3200000
theorem jnew_t (m a r t vw : Nat) (i : Int) (ep now : Nat) (hc : CfgOk m a r t vw i) (he : 1 ≤ ep ∧ ep ≤ mxX) :
 Calls Tryz.prog 20 #[cfgv m a r t vw i, .int .u64 (ep : Int), .int .u64 (now : Int)] w fun e w' => ∃ q, e = .returned (.tuple #[.pointer (some ⟨q, 0, none⟩), .int .i64 0]) ∧ JS w' ⟨q, .slice none 0 0, .slice none 0 0, [], [], fun _ => False⟩ (.int .u64 (a : Int), .int .i64 i) (newF m r t vw ep now).d ∧ Below w.heap.size w w' ∧ w.heap.size ≤ q := by
 obtain ⟨w1, hw1⟩ : ∃ w1, w1 = w.alloc (.cells #[.int .i64 (m : Int), .int .u64 (a : Int), .int .u64 (r : Int), .int .i64 (t : Int), .int .i64 (vw : Int), .int .i64 i] 25) := ⟨_, rfl⟩; have hb1 : Below w.heap.size w w1 := by rw [hw1]; exact alw (bR _ _) _
 have hbox : w1.heap[w.heap.size]? = some (.cells #[.int .i64 (m : Int), .int .u64 (a : Int), .int .u64 (r : Int), .int .i64 (t : Int), .int .i64 (vw : Int), .int .i64 i] 25 (0, 0)) := by rw [hw1]; exact heap_alloc_new w _
 have hcb : ∀ u, Below w1.heap.size w1 u → u.cell? ⟨w.heap.size, 0, none⟩ = some (.int .i64 (m : Int)) ∧ u.cell? ⟨w.heap.size, 1, none⟩ = some (.int .u64 (a : Int)) ∧ u.cell? ⟨w.heap.size, 2, none⟩ = some (.int .u64 (r : Int)) ∧ u.cell? ⟨w.heap.size, 3, none⟩ = some (.int .i64 (t : Int)) ∧ u.cell? ⟨w.heap.size, 4, none⟩ = some (.int .i64 (vw : Int)) ∧ u.cell? ⟨w.heap.size, 5, none⟩ = some (.int .i64 i) := fun u hu => by
  have h9 := (hu.block _ (sI hbox).1).trans hbox; refine ⟨?_, ?_, ?_, ?_, ?_, ?_⟩
  all_goals (rw [cR h9]; rfl)
 haveI := Classical.propDecidable (CfgOk m a r t vw i)
 have HC : Hid (∀ u, Calls Tryz.prog 30 #[cfgv m a r t vw i] u fun e w' => e = .returned (.bool true) ∧ Below u.heap.size u w') := fun u => by
  have h9 := cfg_t m a r t vw i u; rw [decide_eq_true hc] at h9; exact h9
 have hc1 := hcb w1 (bR _ _); have he1 : ((ep : Int) == 0) = false := by simp; omega
 have he2 : ¬ 281474976710655 < (ep : Int) := by have := he.2; unfold mxX at this; omega
 have HM : Hid (((min now mxX : Nat) : Int) = min (now : Int) 281474976710655) := by unfold Hid mxX; omega
 have HW1 : Hid (w1 = _) := hw1; have HB1 : Hid _ := hb1; have HCF : Hid _ := hc; have HEP : Hid _ := he; clear hw1 hb1 hbox hc he; go_enter Tryz.func20, Tryz.ntmps20
 (go_wp2_with fail); rw [← HW1.out]; refine Calls.mono (HC.out _) ?_; rintro e w2 ⟨rfl, hb2⟩; have hc2 := hcb w2 hb2; have HB2 : Hid _ := hb2; clear hb2 hcb hc1; go_wp2; go_ret2; obtain ⟨h1, h2, h3, h4, h5, h6, h7, h8, h9, h10, h11, h12⟩ := HCF.out; have hb3 := below_next HB1.out HB2.out; refine ⟨_, rfl, ⟨?_, MidG.of_own (World.ownsRow_nil _ _ _ _ : OwnG KJf _ 0 _ []), rfl, fun i r e h => by simp at h, World.ownsRow_nil _ _ _ _, rfl, fun y hy => by simp at hy, fun y hy => by simp at hy, fun b hb => hb.elim⟩, alw hb3 _, hb3.size⟩; have h0 := heap_alloc_new w2 (.cells (cellsJ (newF m r t vw ep now).d (.int .u64 (a : Int), .int .i64 i) (.slice none 0 0) (.slice none 0 0)) tJs); rw [← h0]; simp only [newF, Fs.d, cellsJ, HM.out]
theorem jnew_no (m : Int) (a r : Nat) (t vw i : Int) (ep now : Nat) (hc : ¬ (CfgOk m a r t vw i ∧ 1 ≤ ep ∧ ep ≤ mxX)) :
 Calls Tryz.prog 20 #[cfgv m a r t vw i, .int .u64 (ep : Int), .int .u64 (now : Int)] w fun e w' => e = .returned (.tuple #[.pointer none, .int .i64 1]) ∧ Below w.heap.size w w' := by
 obtain ⟨w1, hw1⟩ : ∃ w1, w1 = w.alloc (.cells #[.int .i64 m, .int .u64 (a : Int), .int .u64 (r : Int), .int .i64 t, .int .i64 vw, .int .i64 i] 25) := ⟨_, rfl⟩; have hb1 : Below w.heap.size w w1 := by rw [hw1]; exact alw (bR _ _) _
 have hbox : w1.heap[w.heap.size]? = some (.cells #[.int .i64 m, .int .u64 (a : Int), .int .u64 (r : Int), .int .i64 t, .int .i64 vw, .int .i64 i] 25 (0, 0)) := by rw [hw1]; exact heap_alloc_new w _
 have hc1 : w1.cell? ⟨w.heap.size, 0, none⟩ = some (.int .i64 m) ∧ w1.cell? ⟨w.heap.size, 1, none⟩ = some (.int .u64 (a : Int)) ∧ w1.cell? ⟨w.heap.size, 2, none⟩ = some (.int .u64 (r : Int)) ∧ w1.cell? ⟨w.heap.size, 3, none⟩ = some (.int .i64 t) ∧ w1.cell? ⟨w.heap.size, 4, none⟩ = some (.int .i64 vw) ∧ w1.cell? ⟨w.heap.size, 5, none⟩ = some (.int .i64 i) := by
  refine ⟨?_, ?_, ?_, ?_, ?_, ?_⟩
  all_goals (rw [cR hbox]; rfl)
 haveI := Classical.propDecidable (CfgOk m a r t vw i)
 have HW1 : Hid (w1 = _) := hw1; have HB1 : Hid _ := hb1
 by_cases hk : CfgOk m a r t vw i
 · have HC : Hid (Calls Tryz.prog 30 #[cfgv m a r t vw i] w1 fun e w' => e = .returned (.bool true) ∧ Below w1.heap.size w1 w') := by
    have h9 := cfg_t m a r t vw i w1; rw [decide_eq_true hk] at h9; exact h9
   by_cases h0 : ep = 0
   · subst h0; clear hw1 hb1 hbox hc hk; go_enter Tryz.func20, Tryz.ntmps20
     (go_wp2_with fail); rw [← HW1.out]; refine Calls.mono HC.out ?_; rintro e w2 ⟨rfl, hb2⟩; have HB2 : Hid _ := hb2; clear hb2; go_wp2; go_ret2; exact ⟨rfl, below_next HB1.out HB2.out⟩
   · have he2 : 281474976710655 < (ep : Int) := by
      have h9 : ¬ ep ≤ mxX := fun h9 => hc ⟨hk, by omega, h9⟩
      unfold mxX at h9; omega
     have he1 : ((ep : Int) == 0) = false := by simp; omega
     clear hw1 hb1 hbox hc hk h0; go_enter Tryz.func20, Tryz.ntmps20
     (go_wp2_with fail); rw [← HW1.out]; refine Calls.mono HC.out ?_; rintro e w2 ⟨rfl, hb2⟩; have HB2 : Hid _ := hb2; clear hb2; go_wp2; go_ret2; exact ⟨rfl, below_next HB1.out HB2.out⟩
 · have HC : Hid (Calls Tryz.prog 30 #[cfgv m a r t vw i] w1 fun e w' => e = .returned (.bool false) ∧ Below w1.heap.size w1 w') := by
    have h9 := cfg_t m a r t vw i w1; rw [decide_eq_false hk] at h9; exact h9
   clear hw1 hb1 hbox hc hk; go_enter Tryz.func20, Tryz.ntmps20
   (go_wp2_with fail); rw [← HW1.out]; refine Calls.mono HC.out ?_; rintro e w2 ⟨rfl, hb2⟩; have HB2 : Hid _ := hb2; clear hb2; go_wp2; go_ret2; exact ⟨rfl, below_next HB1.out HB2.out⟩
end
end Go.Proofs.YtpakkpahcpgnnaaGreatDoor
