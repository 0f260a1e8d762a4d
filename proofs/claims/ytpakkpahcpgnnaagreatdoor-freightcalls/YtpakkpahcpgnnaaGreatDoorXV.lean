import Derived.Test.YtpakkpahcpgnnaaGreatDoorXA
set_option linter.unusedVariables false
set_option linter.unusedSimpArgs false
namespace Go.Proofs.YtpakkpahcpgnnaaGreatDoor
open Go.RowKit
def CfgOk (m : Int) (a r : Nat) (t v i : Int) : Prop := 16 ≤ m ∧ m ≤ 1024 ∧ 1 ≤ (a : Int) ∧ (a : Int) ≤ 4096 ∧ 1 ≤ (r : Int) ∧ (r : Int) ≤ 4096 ∧ 0 ≤ t ∧ t ≤ 16 ∧ 1 ≤ v ∧ v ≤ 8 ∧ v ≤ i ∧ i ≤ 32
abbrev cfgv (m : Int) (a r : Nat) (t v i : Int) : Value := .agg #[.int .i64 m, .int .u64 (a : Int), .int .u64 (r : Int), .int .i64 t, .int .i64 v, .int .i64 i]
section
variable (m : Int) (a r : Nat) (t v i : Int) (w : World)
set_option maxRecDepth 20000
set_option maxHeartbeats 1600000
theorem cfg_0  (h0 : ¬ (16 ≤ m)) : Calls Tryz.prog 30 #[cfgv m a r t v i] w fun e w' => e = .returned (.bool false) ∧ Below w.heap.size w w' := by
 have HB : Hid (∀ o, Below w.heap.size w (w.alloc o)) := fun o => alx (bR _ _) (Nat.le_refl _) o
 go_enter Tryz.func30, Tryz.ntmps30
 go_wp2; go_ret; exact ⟨rfl, HB.out _⟩
theorem cfg_1 (h0 : 16 ≤ m) (h1 : ¬ (m ≤ 1024)) : Calls Tryz.prog 30 #[cfgv m a r t v i] w fun e w' => e = .returned (.bool false) ∧ Below w.heap.size w w' := by
 have HB : Hid (∀ o, Below w.heap.size w (w.alloc o)) := fun o => alx (bR _ _) (Nat.le_refl _) o
 go_enter Tryz.func30, Tryz.ntmps30
 go_wp2; go_ret; exact ⟨rfl, HB.out _⟩
theorem cfg_2 (h0 : 16 ≤ m) (h1 : m ≤ 1024) (h2 : ¬ (1 ≤ (a : Int))) : Calls Tryz.prog 30 #[cfgv m a r t v i] w fun e w' => e = .returned (.bool false) ∧ Below w.heap.size w w' := by
 have HB : Hid (∀ o, Below w.heap.size w (w.alloc o)) := fun o => alx (bR _ _) (Nat.le_refl _) o
 go_enter Tryz.func30, Tryz.ntmps30
 go_wp2; go_ret; exact ⟨rfl, HB.out _⟩
theorem cfg_3 (h0 : 16 ≤ m) (h1 : m ≤ 1024) (h2 : 1 ≤ (a : Int)) (h3 : ¬ ((a : Int) ≤ 4096)) : Calls Tryz.prog 30 #[cfgv m a r t v i] w fun e w' => e = .returned (.bool false) ∧ Below w.heap.size w w' := by
 have HB : Hid (∀ o, Below w.heap.size w (w.alloc o)) := fun o => alx (bR _ _) (Nat.le_refl _) o
 go_enter Tryz.func30, Tryz.ntmps30
 go_wp2; go_ret; exact ⟨rfl, HB.out _⟩
theorem cfg_4 (h0 : 16 ≤ m) (h1 : m ≤ 1024) (h2 : 1 ≤ (a : Int)) (h3 : (a : Int) ≤ 4096) (h4 : ¬ (1 ≤ (r : Int))) : Calls Tryz.prog 30 #[cfgv m a r t v i] w fun e w' => e = .returned (.bool false) ∧ Below w.heap.size w w' := by
 have HB : Hid (∀ o, Below w.heap.size w (w.alloc o)) := fun o => alx (bR _ _) (Nat.le_refl _) o
 go_enter Tryz.func30, Tryz.ntmps30
 go_wp2; go_ret; exact ⟨rfl, HB.out _⟩
theorem cfg_5 (h0 : 16 ≤ m) (h1 : m ≤ 1024) (h2 : 1 ≤ (a : Int)) (h3 : (a : Int) ≤ 4096) (h4 : 1 ≤ (r : Int)) (h5 : ¬ ((r : Int) ≤ 4096)) : Calls Tryz.prog 30 #[cfgv m a r t v i] w fun e w' => e = .returned (.bool false) ∧ Below w.heap.size w w' := by
 have HB : Hid (∀ o, Below w.heap.size w (w.alloc o)) := fun o => alx (bR _ _) (Nat.le_refl _) o
 go_enter Tryz.func30, Tryz.ntmps30
 go_wp2; go_ret; exact ⟨rfl, HB.out _⟩
theorem cfg_6 (h0 : 16 ≤ m) (h1 : m ≤ 1024) (h2 : 1 ≤ (a : Int)) (h3 : (a : Int) ≤ 4096) (h4 : 1 ≤ (r : Int)) (h5 : (r : Int) ≤ 4096) (h6 : ¬ (0 ≤ t)) : Calls Tryz.prog 30 #[cfgv m a r t v i] w fun e w' => e = .returned (.bool false) ∧ Below w.heap.size w w' := by
 have HB : Hid (∀ o, Below w.heap.size w (w.alloc o)) := fun o => alx (bR _ _) (Nat.le_refl _) o
 go_enter Tryz.func30, Tryz.ntmps30
 go_wp2; go_ret; exact ⟨rfl, HB.out _⟩
theorem cfg_7 (h0 : 16 ≤ m) (h1 : m ≤ 1024) (h2 : 1 ≤ (a : Int)) (h3 : (a : Int) ≤ 4096) (h4 : 1 ≤ (r : Int)) (h5 : (r : Int) ≤ 4096) (h6 : 0 ≤ t) (h7 : ¬ (t ≤ 16)) : Calls Tryz.prog 30 #[cfgv m a r t v i] w fun e w' => e = .returned (.bool false) ∧ Below w.heap.size w w' := by
 have HB : Hid (∀ o, Below w.heap.size w (w.alloc o)) := fun o => alx (bR _ _) (Nat.le_refl _) o
 go_enter Tryz.func30, Tryz.ntmps30
 go_wp2; go_ret; exact ⟨rfl, HB.out _⟩
theorem cfg_8 (h0 : 16 ≤ m) (h1 : m ≤ 1024) (h2 : 1 ≤ (a : Int)) (h3 : (a : Int) ≤ 4096) (h4 : 1 ≤ (r : Int)) (h5 : (r : Int) ≤ 4096) (h6 : 0 ≤ t) (h7 : t ≤ 16) (h8 : ¬ (1 ≤ v)) : Calls Tryz.prog 30 #[cfgv m a r t v i] w fun e w' => e = .returned (.bool false) ∧ Below w.heap.size w w' := by
 have HB : Hid (∀ o, Below w.heap.size w (w.alloc o)) := fun o => alx (bR _ _) (Nat.le_refl _) o
 go_enter Tryz.func30, Tryz.ntmps30
 go_wp2; go_ret; exact ⟨rfl, HB.out _⟩
theorem cfg_9 (h0 : 16 ≤ m) (h1 : m ≤ 1024) (h2 : 1 ≤ (a : Int)) (h3 : (a : Int) ≤ 4096) (h4 : 1 ≤ (r : Int)) (h5 : (r : Int) ≤ 4096) (h6 : 0 ≤ t) (h7 : t ≤ 16) (h8 : 1 ≤ v) (h9 : ¬ (v ≤ 8)) : Calls Tryz.prog 30 #[cfgv m a r t v i] w fun e w' => e = .returned (.bool false) ∧ Below w.heap.size w w' := by
 have HB : Hid (∀ o, Below w.heap.size w (w.alloc o)) := fun o => alx (bR _ _) (Nat.le_refl _) o
 go_enter Tryz.func30, Tryz.ntmps30
 go_wp2; go_ret; exact ⟨rfl, HB.out _⟩
theorem cfg_10 (h0 : 16 ≤ m) (h1 : m ≤ 1024) (h2 : 1 ≤ (a : Int)) (h3 : (a : Int) ≤ 4096) (h4 : 1 ≤ (r : Int)) (h5 : (r : Int) ≤ 4096) (h6 : 0 ≤ t) (h7 : t ≤ 16) (h8 : 1 ≤ v) (h9 : v ≤ 8) (h10 : ¬ (v ≤ i)) : Calls Tryz.prog 30 #[cfgv m a r t v i] w fun e w' => e = .returned (.bool false) ∧ Below w.heap.size w w' := by
 have HB : Hid (∀ o, Below w.heap.size w (w.alloc o)) := fun o => alx (bR _ _) (Nat.le_refl _) o
 go_enter Tryz.func30, Tryz.ntmps30
 go_wp2; go_ret; exact ⟨rfl, HB.out _⟩
theorem cfg_11 (h0 : 16 ≤ m) (h1 : m ≤ 1024) (h2 : 1 ≤ (a : Int)) (h3 : (a : Int) ≤ 4096) (h4 : 1 ≤ (r : Int)) (h5 : (r : Int) ≤ 4096) (h6 : 0 ≤ t) (h7 : t ≤ 16) (h8 : 1 ≤ v) (h9 : v ≤ 8) (h10 : v ≤ i) (h11 : ¬ (i ≤ 32)) : Calls Tryz.prog 30 #[cfgv m a r t v i] w fun e w' => e = .returned (.bool false) ∧ Below w.heap.size w w' := by
 have HB : Hid (∀ o, Below w.heap.size w (w.alloc o)) := fun o => alx (bR _ _) (Nat.le_refl _) o
 go_enter Tryz.func30, Tryz.ntmps30
 go_wp2; go_ret; exact ⟨rfl, HB.out _⟩
theorem cfg_12 (h0 : 16 ≤ m) (h1 : m ≤ 1024) (h2 : 1 ≤ (a : Int)) (h3 : (a : Int) ≤ 4096) (h4 : 1 ≤ (r : Int)) (h5 : (r : Int) ≤ 4096) (h6 : 0 ≤ t) (h7 : t ≤ 16) (h8 : 1 ≤ v) (h9 : v ≤ 8) (h10 : v ≤ i) (h11 : i ≤ 32) : Calls Tryz.prog 30 #[cfgv m a r t v i] w fun e w' => e = .returned (.bool true) ∧ Below w.heap.size w w' := by
 have HB : Hid (∀ o, Below w.heap.size w (w.alloc o)) := fun o => alx (bR _ _) (Nat.le_refl _) o
 go_enter Tryz.func30, Tryz.ntmps30
 go_wp2; go_ret; exact ⟨rfl, HB.out _⟩
theorem cfg_t [Decidable (CfgOk m a r t v i)] : Calls Tryz.prog 30 #[cfgv m a r t v i] w fun e w' => e = .returned (.bool (decide (CfgOk m a r t v i))) ∧ Below w.heap.size w w' := by
 by_cases h0 : 16 ≤ m
 · skip
   by_cases h1 : m ≤ 1024
   · skip
     by_cases h2 : 1 ≤ (a : Int)
     · skip
       by_cases h3 : (a : Int) ≤ 4096
       · skip
         by_cases h4 : 1 ≤ (r : Int)
         · skip
           by_cases h5 : (r : Int) ≤ 4096
           · skip
             by_cases h6 : 0 ≤ t
             · skip
               by_cases h7 : t ≤ 16
               · skip
                 by_cases h8 : 1 ≤ v
                 · skip
                   by_cases h9 : v ≤ 8
                   · skip
                     by_cases h10 : v ≤ i
                     · skip
                       by_cases h11 : i ≤ 32
                       · rw [decide_eq_true (show CfgOk m a r t v i from ⟨h0, h1, h2, h3, h4, h5, h6, h7, h8, h9, h10, h11⟩)]; exact cfg_12 m a r t v i w h0 h1 h2 h3 h4 h5 h6 h7 h8 h9 h10 h11
                       · rw [decide_eq_false (show ¬ CfgOk m a r t v i from fun h => h11 h.2.2.2.2.2.2.2.2.2.2.2)]; exact cfg_11 m a r t v i w h0 h1 h2 h3 h4 h5 h6 h7 h8 h9 h10 h11
                     · rw [decide_eq_false (show ¬ CfgOk m a r t v i from fun h => h10 h.2.2.2.2.2.2.2.2.2.2.1)]; exact cfg_10 m a r t v i w h0 h1 h2 h3 h4 h5 h6 h7 h8 h9 h10
                   · rw [decide_eq_false (show ¬ CfgOk m a r t v i from fun h => h9 h.2.2.2.2.2.2.2.2.2.1)]; exact cfg_9 m a r t v i w h0 h1 h2 h3 h4 h5 h6 h7 h8 h9
                 · rw [decide_eq_false (show ¬ CfgOk m a r t v i from fun h => h8 h.2.2.2.2.2.2.2.2.1)]; exact cfg_8 m a r t v i w h0 h1 h2 h3 h4 h5 h6 h7 h8
               · rw [decide_eq_false (show ¬ CfgOk m a r t v i from fun h => h7 h.2.2.2.2.2.2.2.1)]; exact cfg_7 m a r t v i w h0 h1 h2 h3 h4 h5 h6 h7
             · rw [decide_eq_false (show ¬ CfgOk m a r t v i from fun h => h6 h.2.2.2.2.2.2.1)]; exact cfg_6 m a r t v i w h0 h1 h2 h3 h4 h5 h6
           · rw [decide_eq_false (show ¬ CfgOk m a r t v i from fun h => h5 h.2.2.2.2.2.1)]; exact cfg_5 m a r t v i w h0 h1 h2 h3 h4 h5
         · rw [decide_eq_false (show ¬ CfgOk m a r t v i from fun h => h4 h.2.2.2.2.1)]; exact cfg_4 m a r t v i w h0 h1 h2 h3 h4
       · rw [decide_eq_false (show ¬ CfgOk m a r t v i from fun h => h3 h.2.2.2.1)]; exact cfg_3 m a r t v i w h0 h1 h2 h3
     · rw [decide_eq_false (show ¬ CfgOk m a r t v i from fun h => h2 h.2.2.1)]; exact cfg_2 m a r t v i w h0 h1 h2
   · rw [decide_eq_false (show ¬ CfgOk m a r t v i from fun h => h1 h.2.1)]; exact cfg_1 m a r t v i w h0 h1
 · rw [decide_eq_false (show ¬ CfgOk m a r t v i from fun h => h0 h.1)]; exact cfg_0 m a r t v i w h0
end
end Go.Proofs.YtpakkpahcpgnnaaGreatDoor
