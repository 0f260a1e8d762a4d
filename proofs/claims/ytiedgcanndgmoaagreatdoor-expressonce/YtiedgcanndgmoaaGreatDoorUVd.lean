import Derived.Test.YtiedgcanndgmoaaGreatDoorUK
namespace Go.Proofs.YtiedgcanndgmoaaGreatDoor
set_option linter.unusedVariables false
set_option linter.unusedSimpArgs false
open Go.RowKit
section
set_option maxRecDepth 20000
set_option maxHeartbeats 3200000
theorem valid_k (k e s p i c : Int) (da : Option Addr) (dn dc : Nat) (cd : Int) (ga : Option Addr) (gn gc : Nat) (l : List Rg) (w : World) (hk : k ≠ 1 ∧ k ≠ 2 ∧ k ≠ 3) : Calls Tryz.prog 33 #[.agg #[.int .i64 k, .int .u64 e, .int .u64 s, .int .i64 p, .int .i64 i, .int .i64 c, .slice da dn dc, .int .i64 cd, .slice ga gn gc]] w fun e w' => e = .returned (.int .i64 30) ∧ Below w.heap.size w w' := by
  have HBX : Hid (∀ u, Below (w.heap.size + 1) (w.alloc (.cells #[.int .i64 k, .int .u64 e, .int .u64 s, .int .i64 p, .int .i64 i, .int .i64 c, .slice da dn dc, .int .i64 cd, .slice ga gn gc] 41 (0, 0))) u → u.rangeAt w.heap.size 0 [.int .i64 k, .int .u64 e, .int .u64 s, .int .i64 p, .int .i64 i, .int .i64 c, .slice da dn dc, .int .i64 cd, .slice ga gn gc]) := fun u hu => range_below (range_box w [.int .i64 k, .int .u64 e, .int .u64 s, .int .i64 p, .int .i64 i, .int .i64 c, .slice da dn dc, .int .i64 cd, .slice ga gn gc] 41) (by rw [heap_alloc_size1']; exact hu)
  have hsf := fun (u : World) (a : Addr) (n : Nat) => run_store Tryz.prog u a (.func (.func n) #[] #[]) .plain rfl
  have hsn := fun (u : World) (a : Addr) => run_store Tryz.prog u a .nilFunc .plain rfl
  have HKN : Hid _ := hk
  clear hk
  go_enter Tryz.func33, Tryz.ntmps33
  go_wp2_with (first
    | (go_at_call 51; refine (kindOf_t k kd0 false (.inr (.inr (.inr ⟨HKN.out, rfl, rfl⟩))) _).mono ?_; rintro e1 w1 ⟨rfl, hb1⟩; have HS1 : Hid (Below (w.heap.size + 1) (w.alloc (.cells #[.int .i64 k, .int .u64 e, .int .u64 s, .int .i64 p, .int .i64 i, .int .i64 c, .slice da dn dc, .int .i64 cd, .slice ga gn gc] 41 (0, 0))) w1) := (by have h9 := hb1; rw [heap_alloc_size1'] at h9; exact h9); have HW1 : Hid (Below w.heap.size w w1) := below_next (al (Below.refl _ w) _) hb1; have hc1 : ∀ o, (w1.alloc o).cell? ⟨w.heap.size, 1, none⟩ = some (.int .u64 e) := (fun o => HBX.out _ (HS1.out.alloc (by have := HS1.out.size; simpa using this) o) 1 _ rfl); have hc2 : ∀ o, (w1.alloc o).cell? ⟨w.heap.size, 2, none⟩ = some (.int .u64 s) := (fun o => HBX.out _ (HS1.out.alloc (by have := HS1.out.size; simpa using this) o) 2 _ rfl); clear hb1))
  go_ret
  exact ⟨rfl, (al HW1.out _)⟩
theorem valid_1e (e s p i c : Int) (da : Option Addr) (dn dc : Nat) (cd : Int) (ga : Option Addr) (gn gc : Nat) (l : List Rg) (w : World) (he : ¬ nameOk e) : Calls Tryz.prog 33 #[.agg #[.int .i64 1, .int .u64 e, .int .u64 s, .int .i64 p, .int .i64 i, .int .i64 c, .slice da dn dc, .int .i64 cd, .slice ga gn gc]] w fun e w' => e = .returned (.int .i64 30) ∧ Below w.heap.size w w' := by
  have HBX : Hid (∀ u, Below (w.heap.size + 1) (w.alloc (.cells #[.int .i64 1, .int .u64 e, .int .u64 s, .int .i64 p, .int .i64 i, .int .i64 c, .slice da dn dc, .int .i64 cd, .slice ga gn gc] 41 (0, 0))) u → u.rangeAt w.heap.size 0 [.int .i64 1, .int .u64 e, .int .u64 s, .int .i64 p, .int .i64 i, .int .i64 c, .slice da dn dc, .int .i64 cd, .slice ga gn gc]) := fun u hu => range_below (range_box w [.int .i64 1, .int .u64 e, .int .u64 s, .int .i64 p, .int .i64 i, .int .i64 c, .slice da dn dc, .int .i64 cd, .slice ga gn gc] 41) (by rw [heap_alloc_size1']; exact hu)
  have hsf := fun (u : World) (a : Addr) (n : Nat) => run_store Tryz.prog u a (.func (.func n) #[] #[]) .plain rfl
  have hsn := fun (u : World) (a : Addr) => run_store Tryz.prog u a .nilFunc .plain rfl
  have HE : Hid _ := he
  clear he
  go_enter Tryz.func33, Tryz.ntmps33
  go_wp2_with (first
    | (go_at_call 51; refine (kindOf_t 1 kd1 true (.inl ⟨rfl, rfl, rfl⟩) _).mono ?_; rintro e1 w1 ⟨rfl, hb1⟩; have HS1 : Hid (Below (w.heap.size + 1) (w.alloc (.cells #[.int .i64 1, .int .u64 e, .int .u64 s, .int .i64 p, .int .i64 i, .int .i64 c, .slice da dn dc, .int .i64 cd, .slice ga gn gc] 41 (0, 0))) w1) := (by have h9 := hb1; rw [heap_alloc_size1'] at h9; exact h9); have HW1 : Hid (Below w.heap.size w w1) := below_next (al (Below.refl _ w) _) hb1; have hc1 : ∀ o, (w1.alloc o).cell? ⟨w.heap.size, 1, none⟩ = some (.int .u64 e) := (fun o => HBX.out _ (HS1.out.alloc (by have := HS1.out.size; simpa using this) o) 1 _ rfl); have hc2 : ∀ o, (w1.alloc o).cell? ⟨w.heap.size, 2, none⟩ = some (.int .u64 s) := (fun o => HBX.out _ (HS1.out.alloc (by have := HS1.out.size; simpa using this) o) 2 _ rfl); clear hb1)
    | (go_at_call_of 52 (Value.int .u64 e); refine (goodName_b e false ⟨(fun h => by cases h), fun h => absurd h HE.out⟩ _).mono ?_; rintro e2 w2 ⟨rfl, rfl⟩))
  go_ret
  exact ⟨rfl, (al HW1.out _)⟩
theorem valid_1s (e s p i c : Int) (da : Option Addr) (dn dc : Nat) (cd : Int) (ga : Option Addr) (gn gc : Nat) (l : List Rg) (w : World) (he : nameOk e) (hs : ¬ nameOk s) : Calls Tryz.prog 33 #[.agg #[.int .i64 1, .int .u64 e, .int .u64 s, .int .i64 p, .int .i64 i, .int .i64 c, .slice da dn dc, .int .i64 cd, .slice ga gn gc]] w fun e w' => e = .returned (.int .i64 30) ∧ Below w.heap.size w w' := by
  have HBX : Hid (∀ u, Below (w.heap.size + 1) (w.alloc (.cells #[.int .i64 1, .int .u64 e, .int .u64 s, .int .i64 p, .int .i64 i, .int .i64 c, .slice da dn dc, .int .i64 cd, .slice ga gn gc] 41 (0, 0))) u → u.rangeAt w.heap.size 0 [.int .i64 1, .int .u64 e, .int .u64 s, .int .i64 p, .int .i64 i, .int .i64 c, .slice da dn dc, .int .i64 cd, .slice ga gn gc]) := fun u hu => range_below (range_box w [.int .i64 1, .int .u64 e, .int .u64 s, .int .i64 p, .int .i64 i, .int .i64 c, .slice da dn dc, .int .i64 cd, .slice ga gn gc] 41) (by rw [heap_alloc_size1']; exact hu)
  have hsf := fun (u : World) (a : Addr) (n : Nat) => run_store Tryz.prog u a (.func (.func n) #[] #[]) .plain rfl
  have hsn := fun (u : World) (a : Addr) => run_store Tryz.prog u a .nilFunc .plain rfl
  have HE : Hid _ := he
  have HSN : Hid _ := hs
  clear he hs
  go_enter Tryz.func33, Tryz.ntmps33
  go_wp2_with (first
    | (go_at_call 51; refine (kindOf_t 1 kd1 true (.inl ⟨rfl, rfl, rfl⟩) _).mono ?_; rintro e1 w1 ⟨rfl, hb1⟩; have HS1 : Hid (Below (w.heap.size + 1) (w.alloc (.cells #[.int .i64 1, .int .u64 e, .int .u64 s, .int .i64 p, .int .i64 i, .int .i64 c, .slice da dn dc, .int .i64 cd, .slice ga gn gc] 41 (0, 0))) w1) := (by have h9 := hb1; rw [heap_alloc_size1'] at h9; exact h9); have HW1 : Hid (Below w.heap.size w w1) := below_next (al (Below.refl _ w) _) hb1; have hc1 : ∀ o, (w1.alloc o).cell? ⟨w.heap.size, 1, none⟩ = some (.int .u64 e) := (fun o => HBX.out _ (HS1.out.alloc (by have := HS1.out.size; simpa using this) o) 1 _ rfl); have hc2 : ∀ o, (w1.alloc o).cell? ⟨w.heap.size, 2, none⟩ = some (.int .u64 s) := (fun o => HBX.out _ (HS1.out.alloc (by have := HS1.out.size; simpa using this) o) 2 _ rfl); clear hb1)
    | (go_at_call_of 52 (Value.int .u64 e); refine (goodName_b e true ⟨fun _ => HE.out, fun _ => rfl⟩ _).mono ?_; rintro e2 w2 ⟨rfl, rfl⟩)
    | (go_at_call_of 52 (Value.int .u64 s); refine (goodName_b s false ⟨(fun h => by cases h), fun h => absurd h HSN.out⟩ _).mono ?_; rintro e3 w3 ⟨rfl, rfl⟩))
  go_ret
  exact ⟨rfl, (al HW1.out _)⟩
theorem valid_1b (e s p i c : Int) (da : Option Addr) (dn dc : Nat) (cd : Int) (ga : Option Addr) (gn gc : Nat) (l : List Rg) (w : World) (he : nameOk e) (hs : nameOk s) (hg : ¬ ((p = 1 ∨ p = 2) ∧ (0 ≤ i ∧ i < 64) ∧ (i < c ∧ c ≤ 64) ∧ (1 ≤ dn ∧ dn ≤ 1024) ∧ (cd = 0 ∧ gn = 0))) : Calls Tryz.prog 33 #[.agg #[.int .i64 1, .int .u64 e, .int .u64 s, .int .i64 p, .int .i64 i, .int .i64 c, .slice da dn dc, .int .i64 cd, .slice ga gn gc]] w fun e w' => e = .returned (.int .i64 30) ∧ Below w.heap.size w w' := by
  have HBX : Hid (∀ u, Below (w.heap.size + 1) (w.alloc (.cells #[.int .i64 1, .int .u64 e, .int .u64 s, .int .i64 p, .int .i64 i, .int .i64 c, .slice da dn dc, .int .i64 cd, .slice ga gn gc] 41 (0, 0))) u → u.rangeAt w.heap.size 0 [.int .i64 1, .int .u64 e, .int .u64 s, .int .i64 p, .int .i64 i, .int .i64 c, .slice da dn dc, .int .i64 cd, .slice ga gn gc]) := fun u hu => range_below (range_box w [.int .i64 1, .int .u64 e, .int .u64 s, .int .i64 p, .int .i64 i, .int .i64 c, .slice da dn dc, .int .i64 cd, .slice ga gn gc] 41) (by rw [heap_alloc_size1']; exact hu)
  have hsf := fun (u : World) (a : Addr) (n : Nat) => run_store Tryz.prog u a (.func (.func n) #[] #[]) .plain rfl
  have hsn := fun (u : World) (a : Addr) => run_store Tryz.prog u a .nilFunc .plain rfl
  have HE : Hid (nameOk e) := he
  have HSN : Hid (nameOk s) := hs
  have HG : Hid (¬ ((p = 1 ∨ p = 2) ∧ (0 ≤ i ∧ i < 64) ∧ (i < c ∧ c ≤ 64) ∧ (1 ≤ dn ∧ dn ≤ 1024) ∧ (cd = 0 ∧ gn = 0))) := hg
  clear he hs hg
  go_enter Tryz.func33, Tryz.ntmps33
  go_wp2_with (first
    | (go_at_call 51; refine (kindOf_t 1 kd1 true (.inl ⟨rfl, rfl, rfl⟩) _).mono ?_; rintro e1 w1 ⟨rfl, hb1⟩; have HS1 : Hid (Below (w.heap.size + 1) (w.alloc (.cells #[.int .i64 1, .int .u64 e, .int .u64 s, .int .i64 p, .int .i64 i, .int .i64 c, .slice da dn dc, .int .i64 cd, .slice ga gn gc] 41 (0, 0))) w1) := (by have h9 := hb1; rw [heap_alloc_size1'] at h9; exact h9); have HW1 : Hid (Below w.heap.size w w1) := below_next (al (Below.refl _ w) _) hb1; have hc1 : ∀ o, (w1.alloc o).cell? ⟨w.heap.size, 1, none⟩ = some (.int .u64 e) := (fun o => HBX.out _ (HS1.out.alloc (by have := HS1.out.size; simpa using this) o) 1 _ rfl); have hc2 : ∀ o, (w1.alloc o).cell? ⟨w.heap.size, 2, none⟩ = some (.int .u64 s) := (fun o => HBX.out _ (HS1.out.alloc (by have := HS1.out.size; simpa using this) o) 2 _ rfl); clear hb1)
    | (go_at_call_of 52 (Value.int .u64 e); refine (goodName_b e true ⟨fun _ => HE.out, fun _ => rfl⟩ _).mono ?_; rintro e2 w2 ⟨rfl, rfl⟩)
    | (go_at_call_of 52 (Value.int .u64 s); refine (goodName_b s true ⟨fun _ => HSN.out, fun _ => rfl⟩ _).mono ?_; rintro e3 w3 ⟨rfl, rfl⟩)
    | (refine wpList_load_g (by rfl) 41 _ rfl w.heap.size 0 (by rfl) [.int .i64 1, .int .u64 e, .int .u64 s, .int .i64 p, .int .i64 i, .int .i64 c, .slice da dn dc, .int .i64 cd, .slice ga gn gc] _ (HBX.out _ (HS1.out.alloc (by have := HS1.out.size; simpa using this) _)) Tryz.underlying41 rfl info_un ?_)
    | (go_at_call 79; refine (goodData_b 1 e s p i c da dn dc cd ga gn gc false _ ⟨(fun h => by cases h), fun h => absurd h HG.out⟩).mono ?_; rintro e4 w4 ⟨rfl, hb4⟩; have HB4 : Hid (Below w.heap.size w w4) := below_next (al HW1.out _) hb4))
  go_ret
  exact ⟨rfl, HB4.out⟩
theorem valid_1g (e s p i c : Int) (da : Option Addr) (dn dc : Nat) (cd : Int) (ga : Option Addr) (gn gc : Nat) (l : List Rg) (w : World) (he : nameOk e) (hs : nameOk s) (hg : ((p = 1 ∨ p = 2) ∧ (0 ≤ i ∧ i < 64) ∧ (i < c ∧ c ≤ 64) ∧ (1 ≤ dn ∧ dn ≤ 1024) ∧ (cd = 0 ∧ gn = 0))) : Calls Tryz.prog 33 #[.agg #[.int .i64 1, .int .u64 e, .int .u64 s, .int .i64 p, .int .i64 i, .int .i64 c, .slice da dn dc, .int .i64 cd, .slice ga gn gc]] w fun e w' => e = .returned (.int .i64 0) ∧ Below w.heap.size w w' := by
  have HBX : Hid (∀ u, Below (w.heap.size + 1) (w.alloc (.cells #[.int .i64 1, .int .u64 e, .int .u64 s, .int .i64 p, .int .i64 i, .int .i64 c, .slice da dn dc, .int .i64 cd, .slice ga gn gc] 41 (0, 0))) u → u.rangeAt w.heap.size 0 [.int .i64 1, .int .u64 e, .int .u64 s, .int .i64 p, .int .i64 i, .int .i64 c, .slice da dn dc, .int .i64 cd, .slice ga gn gc]) := fun u hu => range_below (range_box w [.int .i64 1, .int .u64 e, .int .u64 s, .int .i64 p, .int .i64 i, .int .i64 c, .slice da dn dc, .int .i64 cd, .slice ga gn gc] 41) (by rw [heap_alloc_size1']; exact hu)
  have hsf := fun (u : World) (a : Addr) (n : Nat) => run_store Tryz.prog u a (.func (.func n) #[] #[]) .plain rfl
  have hsn := fun (u : World) (a : Addr) => run_store Tryz.prog u a .nilFunc .plain rfl
  have HE : Hid (nameOk e) := he
  have HSN : Hid (nameOk s) := hs
  have HG : Hid (((p = 1 ∨ p = 2) ∧ (0 ≤ i ∧ i < 64) ∧ (i < c ∧ c ≤ 64) ∧ (1 ≤ dn ∧ dn ≤ 1024) ∧ (cd = 0 ∧ gn = 0))) := hg
  clear he hs hg
  go_enter Tryz.func33, Tryz.ntmps33
  go_wp2_with (first
    | (go_at_call 51; refine (kindOf_t 1 kd1 true (.inl ⟨rfl, rfl, rfl⟩) _).mono ?_; rintro e1 w1 ⟨rfl, hb1⟩; have HS1 : Hid (Below (w.heap.size + 1) (w.alloc (.cells #[.int .i64 1, .int .u64 e, .int .u64 s, .int .i64 p, .int .i64 i, .int .i64 c, .slice da dn dc, .int .i64 cd, .slice ga gn gc] 41 (0, 0))) w1) := (by have h9 := hb1; rw [heap_alloc_size1'] at h9; exact h9); have HW1 : Hid (Below w.heap.size w w1) := below_next (al (Below.refl _ w) _) hb1; have hc1 : ∀ o, (w1.alloc o).cell? ⟨w.heap.size, 1, none⟩ = some (.int .u64 e) := (fun o => HBX.out _ (HS1.out.alloc (by have := HS1.out.size; simpa using this) o) 1 _ rfl); have hc2 : ∀ o, (w1.alloc o).cell? ⟨w.heap.size, 2, none⟩ = some (.int .u64 s) := (fun o => HBX.out _ (HS1.out.alloc (by have := HS1.out.size; simpa using this) o) 2 _ rfl); clear hb1)
    | (go_at_call_of 52 (Value.int .u64 e); refine (goodName_b e true ⟨fun _ => HE.out, fun _ => rfl⟩ _).mono ?_; rintro e2 w2 ⟨rfl, rfl⟩)
    | (go_at_call_of 52 (Value.int .u64 s); refine (goodName_b s true ⟨fun _ => HSN.out, fun _ => rfl⟩ _).mono ?_; rintro e3 w3 ⟨rfl, rfl⟩)
    | (refine wpList_load_g (by rfl) 41 _ rfl w.heap.size 0 (by rfl) [.int .i64 1, .int .u64 e, .int .u64 s, .int .i64 p, .int .i64 i, .int .i64 c, .slice da dn dc, .int .i64 cd, .slice ga gn gc] _ (HBX.out _ (HS1.out.alloc (by have := HS1.out.size; simpa using this) _)) Tryz.underlying41 rfl info_un ?_)
    | (go_at_call 79; refine (goodData_b 1 e s p i c da dn dc cd ga gn gc true _ ⟨fun _ => HG.out, fun _ => rfl⟩).mono ?_; rintro e4 w4 ⟨rfl, hb4⟩; have HB4 : Hid (Below w.heap.size w w4) := below_next (al HW1.out _) hb4))
  go_ret
  exact ⟨rfl, HB4.out⟩
theorem valid_2e (e s p i c : Int) (da : Option Addr) (dn dc : Nat) (cd : Int) (ga : Option Addr) (gn gc : Nat) (l : List Rg) (w : World) (he : ¬ nameOk e) : Calls Tryz.prog 33 #[.agg #[.int .i64 2, .int .u64 e, .int .u64 s, .int .i64 p, .int .i64 i, .int .i64 c, .slice da dn dc, .int .i64 cd, .slice ga gn gc]] w fun e w' => e = .returned (.int .i64 30) ∧ Below w.heap.size w w' := by
  have HBX : Hid (∀ u, Below (w.heap.size + 1) (w.alloc (.cells #[.int .i64 2, .int .u64 e, .int .u64 s, .int .i64 p, .int .i64 i, .int .i64 c, .slice da dn dc, .int .i64 cd, .slice ga gn gc] 41 (0, 0))) u → u.rangeAt w.heap.size 0 [.int .i64 2, .int .u64 e, .int .u64 s, .int .i64 p, .int .i64 i, .int .i64 c, .slice da dn dc, .int .i64 cd, .slice ga gn gc]) := fun u hu => range_below (range_box w [.int .i64 2, .int .u64 e, .int .u64 s, .int .i64 p, .int .i64 i, .int .i64 c, .slice da dn dc, .int .i64 cd, .slice ga gn gc] 41) (by rw [heap_alloc_size1']; exact hu)
  have hsf := fun (u : World) (a : Addr) (n : Nat) => run_store Tryz.prog u a (.func (.func n) #[] #[]) .plain rfl
  have hsn := fun (u : World) (a : Addr) => run_store Tryz.prog u a .nilFunc .plain rfl
  have HE : Hid _ := he
  clear he
  go_enter Tryz.func33, Tryz.ntmps33
  go_wp2_with (first
    | (go_at_call 51; refine (kindOf_t 2 kd2 true (.inr (.inl ⟨rfl, rfl, rfl⟩)) _).mono ?_; rintro e1 w1 ⟨rfl, hb1⟩; have HS1 : Hid (Below (w.heap.size + 1) (w.alloc (.cells #[.int .i64 2, .int .u64 e, .int .u64 s, .int .i64 p, .int .i64 i, .int .i64 c, .slice da dn dc, .int .i64 cd, .slice ga gn gc] 41 (0, 0))) w1) := (by have h9 := hb1; rw [heap_alloc_size1'] at h9; exact h9); have HW1 : Hid (Below w.heap.size w w1) := below_next (al (Below.refl _ w) _) hb1; have hc1 : ∀ o, (w1.alloc o).cell? ⟨w.heap.size, 1, none⟩ = some (.int .u64 e) := (fun o => HBX.out _ (HS1.out.alloc (by have := HS1.out.size; simpa using this) o) 1 _ rfl); have hc2 : ∀ o, (w1.alloc o).cell? ⟨w.heap.size, 2, none⟩ = some (.int .u64 s) := (fun o => HBX.out _ (HS1.out.alloc (by have := HS1.out.size; simpa using this) o) 2 _ rfl); clear hb1)
    | (go_at_call_of 52 (Value.int .u64 e); refine (goodName_b e false ⟨(fun h => by cases h), fun h => absurd h HE.out⟩ _).mono ?_; rintro e2 w2 ⟨rfl, rfl⟩))
  go_ret
  exact ⟨rfl, (al HW1.out _)⟩
theorem valid_2s (e s p i c : Int) (da : Option Addr) (dn dc : Nat) (cd : Int) (ga : Option Addr) (gn gc : Nat) (l : List Rg) (w : World) (he : nameOk e) (hs : ¬ nameOk s) : Calls Tryz.prog 33 #[.agg #[.int .i64 2, .int .u64 e, .int .u64 s, .int .i64 p, .int .i64 i, .int .i64 c, .slice da dn dc, .int .i64 cd, .slice ga gn gc]] w fun e w' => e = .returned (.int .i64 30) ∧ Below w.heap.size w w' := by
  have HBX : Hid (∀ u, Below (w.heap.size + 1) (w.alloc (.cells #[.int .i64 2, .int .u64 e, .int .u64 s, .int .i64 p, .int .i64 i, .int .i64 c, .slice da dn dc, .int .i64 cd, .slice ga gn gc] 41 (0, 0))) u → u.rangeAt w.heap.size 0 [.int .i64 2, .int .u64 e, .int .u64 s, .int .i64 p, .int .i64 i, .int .i64 c, .slice da dn dc, .int .i64 cd, .slice ga gn gc]) := fun u hu => range_below (range_box w [.int .i64 2, .int .u64 e, .int .u64 s, .int .i64 p, .int .i64 i, .int .i64 c, .slice da dn dc, .int .i64 cd, .slice ga gn gc] 41) (by rw [heap_alloc_size1']; exact hu)
  have hsf := fun (u : World) (a : Addr) (n : Nat) => run_store Tryz.prog u a (.func (.func n) #[] #[]) .plain rfl
  have hsn := fun (u : World) (a : Addr) => run_store Tryz.prog u a .nilFunc .plain rfl
  have HE : Hid _ := he
  have HSN : Hid _ := hs
  clear he hs
  go_enter Tryz.func33, Tryz.ntmps33
  go_wp2_with (first
    | (go_at_call 51; refine (kindOf_t 2 kd2 true (.inr (.inl ⟨rfl, rfl, rfl⟩)) _).mono ?_; rintro e1 w1 ⟨rfl, hb1⟩; have HS1 : Hid (Below (w.heap.size + 1) (w.alloc (.cells #[.int .i64 2, .int .u64 e, .int .u64 s, .int .i64 p, .int .i64 i, .int .i64 c, .slice da dn dc, .int .i64 cd, .slice ga gn gc] 41 (0, 0))) w1) := (by have h9 := hb1; rw [heap_alloc_size1'] at h9; exact h9); have HW1 : Hid (Below w.heap.size w w1) := below_next (al (Below.refl _ w) _) hb1; have hc1 : ∀ o, (w1.alloc o).cell? ⟨w.heap.size, 1, none⟩ = some (.int .u64 e) := (fun o => HBX.out _ (HS1.out.alloc (by have := HS1.out.size; simpa using this) o) 1 _ rfl); have hc2 : ∀ o, (w1.alloc o).cell? ⟨w.heap.size, 2, none⟩ = some (.int .u64 s) := (fun o => HBX.out _ (HS1.out.alloc (by have := HS1.out.size; simpa using this) o) 2 _ rfl); clear hb1)
    | (go_at_call_of 52 (Value.int .u64 e); refine (goodName_b e true ⟨fun _ => HE.out, fun _ => rfl⟩ _).mono ?_; rintro e2 w2 ⟨rfl, rfl⟩)
    | (go_at_call_of 52 (Value.int .u64 s); refine (goodName_b s false ⟨(fun h => by cases h), fun h => absurd h HSN.out⟩ _).mono ?_; rintro e3 w3 ⟨rfl, rfl⟩))
  go_ret
  exact ⟨rfl, (al HW1.out _)⟩
theorem valid_2b (e s p i c : Int) (da : Option Addr) (dn dc : Nat) (cd : Int) (ga : Option Addr) (gn gc : Nat) (l : List Rg) (w : World) (hn : gn = l.length) (hx : RdR w ga l) (hl : gn ≤ 8796093022208) (hc : gn ≤ gc) (he : nameOk e) (hs : nameOk s) (hg : ¬ ((p = 0 ∧ i = 0 ∧ c = 0 ∧ dn = 0) ∧ (0 ≤ cd ∧ cd ≤ 7) ∧ gotOk l ∧ (cd = 0 ∨ gn = 0))) : Calls Tryz.prog 33 #[.agg #[.int .i64 2, .int .u64 e, .int .u64 s, .int .i64 p, .int .i64 i, .int .i64 c, .slice da dn dc, .int .i64 cd, .slice ga gn gc]] w fun e w' => e = .returned (.int .i64 30) ∧ Below w.heap.size w w' := by
  have HBX : Hid (∀ u, Below (w.heap.size + 1) (w.alloc (.cells #[.int .i64 2, .int .u64 e, .int .u64 s, .int .i64 p, .int .i64 i, .int .i64 c, .slice da dn dc, .int .i64 cd, .slice ga gn gc] 41 (0, 0))) u → u.rangeAt w.heap.size 0 [.int .i64 2, .int .u64 e, .int .u64 s, .int .i64 p, .int .i64 i, .int .i64 c, .slice da dn dc, .int .i64 cd, .slice ga gn gc]) := fun u hu => range_below (range_box w [.int .i64 2, .int .u64 e, .int .u64 s, .int .i64 p, .int .i64 i, .int .i64 c, .slice da dn dc, .int .i64 cd, .slice ga gn gc] 41) (by rw [heap_alloc_size1']; exact hu)
  have hsf := fun (u : World) (a : Addr) (n : Nat) => run_store Tryz.prog u a (.func (.func n) #[] #[]) .plain rfl
  have hsn := fun (u : World) (a : Addr) => run_store Tryz.prog u a .nilFunc .plain rfl
  have HXR : Hid (∀ u, Below w.heap.size w u → RdR u ga l) := fun u hu => hx.below hu
  have HGN : Hid (gn = l.length) := hn
  have HLC : Hid (gn ≤ 8796093022208 ∧ gn ≤ gc) := ⟨hl, hc⟩
  clear hx hn hl hc
  have HE : Hid (nameOk e) := he
  have HSN : Hid (nameOk s) := hs
  have HG : Hid (¬ ((p = 0 ∧ i = 0 ∧ c = 0 ∧ dn = 0) ∧ (0 ≤ cd ∧ cd ≤ 7) ∧ gotOk l ∧ (cd = 0 ∨ gn = 0))) := hg
  clear he hs hg
  go_enter Tryz.func33, Tryz.ntmps33
  go_wp2_with (first
    | (go_at_call 51; refine (kindOf_t 2 kd2 true (.inr (.inl ⟨rfl, rfl, rfl⟩)) _).mono ?_; rintro e1 w1 ⟨rfl, hb1⟩; have HS1 : Hid (Below (w.heap.size + 1) (w.alloc (.cells #[.int .i64 2, .int .u64 e, .int .u64 s, .int .i64 p, .int .i64 i, .int .i64 c, .slice da dn dc, .int .i64 cd, .slice ga gn gc] 41 (0, 0))) w1) := (by have h9 := hb1; rw [heap_alloc_size1'] at h9; exact h9); have HW1 : Hid (Below w.heap.size w w1) := below_next (al (Below.refl _ w) _) hb1; have hc1 : ∀ o, (w1.alloc o).cell? ⟨w.heap.size, 1, none⟩ = some (.int .u64 e) := (fun o => HBX.out _ (HS1.out.alloc (by have := HS1.out.size; simpa using this) o) 1 _ rfl); have hc2 : ∀ o, (w1.alloc o).cell? ⟨w.heap.size, 2, none⟩ = some (.int .u64 s) := (fun o => HBX.out _ (HS1.out.alloc (by have := HS1.out.size; simpa using this) o) 2 _ rfl); clear hb1)
    | (go_at_call_of 52 (Value.int .u64 e); refine (goodName_b e true ⟨fun _ => HE.out, fun _ => rfl⟩ _).mono ?_; rintro e2 w2 ⟨rfl, rfl⟩)
    | (go_at_call_of 52 (Value.int .u64 s); refine (goodName_b s true ⟨fun _ => HSN.out, fun _ => rfl⟩ _).mono ?_; rintro e3 w3 ⟨rfl, rfl⟩)
    | (refine wpList_load_g (by rfl) 41 _ rfl w.heap.size 0 (by rfl) [.int .i64 2, .int .u64 e, .int .u64 s, .int .i64 p, .int .i64 i, .int .i64 c, .slice da dn dc, .int .i64 cd, .slice ga gn gc] _ (HBX.out _ (HS1.out.alloc (by have := HS1.out.size; simpa using this) _)) Tryz.underlying41 rfl info_un ?_)
    | (go_at_call 82; refine (goodReport_b 2 e s p i c da dn dc cd ga gn gc l false _ HGN.out (HXR.out _ (al HW1.out _)) HLC.out.1 HLC.out.2 ⟨(fun h => by cases h), fun h => absurd h HG.out⟩).mono ?_; rintro e4 w4 ⟨rfl, hb4⟩; have HB4 : Hid (Below w.heap.size w w4) := below_next (al HW1.out _) hb4))
  go_ret
  exact ⟨rfl, HB4.out⟩
theorem valid_2g (e s p i c : Int) (da : Option Addr) (dn dc : Nat) (cd : Int) (ga : Option Addr) (gn gc : Nat) (l : List Rg) (w : World) (hn : gn = l.length) (hx : RdR w ga l) (hl : gn ≤ 8796093022208) (hc : gn ≤ gc) (he : nameOk e) (hs : nameOk s) (hg : ((p = 0 ∧ i = 0 ∧ c = 0 ∧ dn = 0) ∧ (0 ≤ cd ∧ cd ≤ 7) ∧ gotOk l ∧ (cd = 0 ∨ gn = 0))) : Calls Tryz.prog 33 #[.agg #[.int .i64 2, .int .u64 e, .int .u64 s, .int .i64 p, .int .i64 i, .int .i64 c, .slice da dn dc, .int .i64 cd, .slice ga gn gc]] w fun e w' => e = .returned (.int .i64 0) ∧ Below w.heap.size w w' := by
  have HBX : Hid (∀ u, Below (w.heap.size + 1) (w.alloc (.cells #[.int .i64 2, .int .u64 e, .int .u64 s, .int .i64 p, .int .i64 i, .int .i64 c, .slice da dn dc, .int .i64 cd, .slice ga gn gc] 41 (0, 0))) u → u.rangeAt w.heap.size 0 [.int .i64 2, .int .u64 e, .int .u64 s, .int .i64 p, .int .i64 i, .int .i64 c, .slice da dn dc, .int .i64 cd, .slice ga gn gc]) := fun u hu => range_below (range_box w [.int .i64 2, .int .u64 e, .int .u64 s, .int .i64 p, .int .i64 i, .int .i64 c, .slice da dn dc, .int .i64 cd, .slice ga gn gc] 41) (by rw [heap_alloc_size1']; exact hu)
  have hsf := fun (u : World) (a : Addr) (n : Nat) => run_store Tryz.prog u a (.func (.func n) #[] #[]) .plain rfl
  have hsn := fun (u : World) (a : Addr) => run_store Tryz.prog u a .nilFunc .plain rfl
  have HXR : Hid (∀ u, Below w.heap.size w u → RdR u ga l) := fun u hu => hx.below hu
  have HGN : Hid (gn = l.length) := hn
  have HLC : Hid (gn ≤ 8796093022208 ∧ gn ≤ gc) := ⟨hl, hc⟩
  clear hx hn hl hc
  have HE : Hid (nameOk e) := he
  have HSN : Hid (nameOk s) := hs
  have HG : Hid (((p = 0 ∧ i = 0 ∧ c = 0 ∧ dn = 0) ∧ (0 ≤ cd ∧ cd ≤ 7) ∧ gotOk l ∧ (cd = 0 ∨ gn = 0))) := hg
  clear he hs hg
  go_enter Tryz.func33, Tryz.ntmps33
  go_wp2_with (first
    | (go_at_call 51; refine (kindOf_t 2 kd2 true (.inr (.inl ⟨rfl, rfl, rfl⟩)) _).mono ?_; rintro e1 w1 ⟨rfl, hb1⟩; have HS1 : Hid (Below (w.heap.size + 1) (w.alloc (.cells #[.int .i64 2, .int .u64 e, .int .u64 s, .int .i64 p, .int .i64 i, .int .i64 c, .slice da dn dc, .int .i64 cd, .slice ga gn gc] 41 (0, 0))) w1) := (by have h9 := hb1; rw [heap_alloc_size1'] at h9; exact h9); have HW1 : Hid (Below w.heap.size w w1) := below_next (al (Below.refl _ w) _) hb1; have hc1 : ∀ o, (w1.alloc o).cell? ⟨w.heap.size, 1, none⟩ = some (.int .u64 e) := (fun o => HBX.out _ (HS1.out.alloc (by have := HS1.out.size; simpa using this) o) 1 _ rfl); have hc2 : ∀ o, (w1.alloc o).cell? ⟨w.heap.size, 2, none⟩ = some (.int .u64 s) := (fun o => HBX.out _ (HS1.out.alloc (by have := HS1.out.size; simpa using this) o) 2 _ rfl); clear hb1)
    | (go_at_call_of 52 (Value.int .u64 e); refine (goodName_b e true ⟨fun _ => HE.out, fun _ => rfl⟩ _).mono ?_; rintro e2 w2 ⟨rfl, rfl⟩)
    | (go_at_call_of 52 (Value.int .u64 s); refine (goodName_b s true ⟨fun _ => HSN.out, fun _ => rfl⟩ _).mono ?_; rintro e3 w3 ⟨rfl, rfl⟩)
    | (refine wpList_load_g (by rfl) 41 _ rfl w.heap.size 0 (by rfl) [.int .i64 2, .int .u64 e, .int .u64 s, .int .i64 p, .int .i64 i, .int .i64 c, .slice da dn dc, .int .i64 cd, .slice ga gn gc] _ (HBX.out _ (HS1.out.alloc (by have := HS1.out.size; simpa using this) _)) Tryz.underlying41 rfl info_un ?_)
    | (go_at_call 82; refine (goodReport_b 2 e s p i c da dn dc cd ga gn gc l true _ HGN.out (HXR.out _ (al HW1.out _)) HLC.out.1 HLC.out.2 ⟨fun _ => HG.out, fun _ => rfl⟩).mono ?_; rintro e4 w4 ⟨rfl, hb4⟩; have HB4 : Hid (Below w.heap.size w w4) := below_next (al HW1.out _) hb4))
  go_ret
  exact ⟨rfl, HB4.out⟩
theorem valid_3e (e s p i c : Int) (da : Option Addr) (dn dc : Nat) (cd : Int) (ga : Option Addr) (gn gc : Nat) (l : List Rg) (w : World) (he : ¬ nameOk e) : Calls Tryz.prog 33 #[.agg #[.int .i64 3, .int .u64 e, .int .u64 s, .int .i64 p, .int .i64 i, .int .i64 c, .slice da dn dc, .int .i64 cd, .slice ga gn gc]] w fun e w' => e = .returned (.int .i64 30) ∧ Below w.heap.size w w' := by
  have HBX : Hid (∀ u, Below (w.heap.size + 1) (w.alloc (.cells #[.int .i64 3, .int .u64 e, .int .u64 s, .int .i64 p, .int .i64 i, .int .i64 c, .slice da dn dc, .int .i64 cd, .slice ga gn gc] 41 (0, 0))) u → u.rangeAt w.heap.size 0 [.int .i64 3, .int .u64 e, .int .u64 s, .int .i64 p, .int .i64 i, .int .i64 c, .slice da dn dc, .int .i64 cd, .slice ga gn gc]) := fun u hu => range_below (range_box w [.int .i64 3, .int .u64 e, .int .u64 s, .int .i64 p, .int .i64 i, .int .i64 c, .slice da dn dc, .int .i64 cd, .slice ga gn gc] 41) (by rw [heap_alloc_size1']; exact hu)
  have hsf := fun (u : World) (a : Addr) (n : Nat) => run_store Tryz.prog u a (.func (.func n) #[] #[]) .plain rfl
  have hsn := fun (u : World) (a : Addr) => run_store Tryz.prog u a .nilFunc .plain rfl
  have HE : Hid _ := he
  clear he
  go_enter Tryz.func33, Tryz.ntmps33
  go_wp2_with (first
    | (go_at_call 51; refine (kindOf_t 3 kd3 true (.inr (.inr (.inl ⟨rfl, rfl, rfl⟩))) _).mono ?_; rintro e1 w1 ⟨rfl, hb1⟩; have HS1 : Hid (Below (w.heap.size + 1) (w.alloc (.cells #[.int .i64 3, .int .u64 e, .int .u64 s, .int .i64 p, .int .i64 i, .int .i64 c, .slice da dn dc, .int .i64 cd, .slice ga gn gc] 41 (0, 0))) w1) := (by have h9 := hb1; rw [heap_alloc_size1'] at h9; exact h9); have HW1 : Hid (Below w.heap.size w w1) := below_next (al (Below.refl _ w) _) hb1; have hc1 : ∀ o, (w1.alloc o).cell? ⟨w.heap.size, 1, none⟩ = some (.int .u64 e) := (fun o => HBX.out _ (HS1.out.alloc (by have := HS1.out.size; simpa using this) o) 1 _ rfl); have hc2 : ∀ o, (w1.alloc o).cell? ⟨w.heap.size, 2, none⟩ = some (.int .u64 s) := (fun o => HBX.out _ (HS1.out.alloc (by have := HS1.out.size; simpa using this) o) 2 _ rfl); clear hb1)
    | (go_at_call_of 52 (Value.int .u64 e); refine (goodName_b e false ⟨(fun h => by cases h), fun h => absurd h HE.out⟩ _).mono ?_; rintro e2 w2 ⟨rfl, rfl⟩))
  go_ret
  exact ⟨rfl, (al HW1.out _)⟩
theorem valid_3s (e s p i c : Int) (da : Option Addr) (dn dc : Nat) (cd : Int) (ga : Option Addr) (gn gc : Nat) (l : List Rg) (w : World) (he : nameOk e) (hs : ¬ nameOk s) : Calls Tryz.prog 33 #[.agg #[.int .i64 3, .int .u64 e, .int .u64 s, .int .i64 p, .int .i64 i, .int .i64 c, .slice da dn dc, .int .i64 cd, .slice ga gn gc]] w fun e w' => e = .returned (.int .i64 30) ∧ Below w.heap.size w w' := by
  have HBX : Hid (∀ u, Below (w.heap.size + 1) (w.alloc (.cells #[.int .i64 3, .int .u64 e, .int .u64 s, .int .i64 p, .int .i64 i, .int .i64 c, .slice da dn dc, .int .i64 cd, .slice ga gn gc] 41 (0, 0))) u → u.rangeAt w.heap.size 0 [.int .i64 3, .int .u64 e, .int .u64 s, .int .i64 p, .int .i64 i, .int .i64 c, .slice da dn dc, .int .i64 cd, .slice ga gn gc]) := fun u hu => range_below (range_box w [.int .i64 3, .int .u64 e, .int .u64 s, .int .i64 p, .int .i64 i, .int .i64 c, .slice da dn dc, .int .i64 cd, .slice ga gn gc] 41) (by rw [heap_alloc_size1']; exact hu)
  have hsf := fun (u : World) (a : Addr) (n : Nat) => run_store Tryz.prog u a (.func (.func n) #[] #[]) .plain rfl
  have hsn := fun (u : World) (a : Addr) => run_store Tryz.prog u a .nilFunc .plain rfl
  have HE : Hid _ := he
  have HSN : Hid _ := hs
  clear he hs
  go_enter Tryz.func33, Tryz.ntmps33
  go_wp2_with (first
    | (go_at_call 51; refine (kindOf_t 3 kd3 true (.inr (.inr (.inl ⟨rfl, rfl, rfl⟩))) _).mono ?_; rintro e1 w1 ⟨rfl, hb1⟩; have HS1 : Hid (Below (w.heap.size + 1) (w.alloc (.cells #[.int .i64 3, .int .u64 e, .int .u64 s, .int .i64 p, .int .i64 i, .int .i64 c, .slice da dn dc, .int .i64 cd, .slice ga gn gc] 41 (0, 0))) w1) := (by have h9 := hb1; rw [heap_alloc_size1'] at h9; exact h9); have HW1 : Hid (Below w.heap.size w w1) := below_next (al (Below.refl _ w) _) hb1; have hc1 : ∀ o, (w1.alloc o).cell? ⟨w.heap.size, 1, none⟩ = some (.int .u64 e) := (fun o => HBX.out _ (HS1.out.alloc (by have := HS1.out.size; simpa using this) o) 1 _ rfl); have hc2 : ∀ o, (w1.alloc o).cell? ⟨w.heap.size, 2, none⟩ = some (.int .u64 s) := (fun o => HBX.out _ (HS1.out.alloc (by have := HS1.out.size; simpa using this) o) 2 _ rfl); clear hb1)
    | (go_at_call_of 52 (Value.int .u64 e); refine (goodName_b e true ⟨fun _ => HE.out, fun _ => rfl⟩ _).mono ?_; rintro e2 w2 ⟨rfl, rfl⟩)
    | (go_at_call_of 52 (Value.int .u64 s); refine (goodName_b s false ⟨(fun h => by cases h), fun h => absurd h HSN.out⟩ _).mono ?_; rintro e3 w3 ⟨rfl, rfl⟩))
  go_ret
  exact ⟨rfl, (al HW1.out _)⟩
theorem valid_3b (e s p i c : Int) (da : Option Addr) (dn dc : Nat) (cd : Int) (ga : Option Addr) (gn gc : Nat) (l : List Rg) (w : World) (he : nameOk e) (hs : nameOk s) (hg : ¬ ((p = 0 ∧ i = 0 ∧ c = 0 ∧ dn = 0) ∧ (cd = 0 ∧ gn = 0))) : Calls Tryz.prog 33 #[.agg #[.int .i64 3, .int .u64 e, .int .u64 s, .int .i64 p, .int .i64 i, .int .i64 c, .slice da dn dc, .int .i64 cd, .slice ga gn gc]] w fun e w' => e = .returned (.int .i64 30) ∧ Below w.heap.size w w' := by
  have HBX : Hid (∀ u, Below (w.heap.size + 1) (w.alloc (.cells #[.int .i64 3, .int .u64 e, .int .u64 s, .int .i64 p, .int .i64 i, .int .i64 c, .slice da dn dc, .int .i64 cd, .slice ga gn gc] 41 (0, 0))) u → u.rangeAt w.heap.size 0 [.int .i64 3, .int .u64 e, .int .u64 s, .int .i64 p, .int .i64 i, .int .i64 c, .slice da dn dc, .int .i64 cd, .slice ga gn gc]) := fun u hu => range_below (range_box w [.int .i64 3, .int .u64 e, .int .u64 s, .int .i64 p, .int .i64 i, .int .i64 c, .slice da dn dc, .int .i64 cd, .slice ga gn gc] 41) (by rw [heap_alloc_size1']; exact hu)
  have hsf := fun (u : World) (a : Addr) (n : Nat) => run_store Tryz.prog u a (.func (.func n) #[] #[]) .plain rfl
  have hsn := fun (u : World) (a : Addr) => run_store Tryz.prog u a .nilFunc .plain rfl
  have HE : Hid (nameOk e) := he
  have HSN : Hid (nameOk s) := hs
  have HG : Hid (¬ ((p = 0 ∧ i = 0 ∧ c = 0 ∧ dn = 0) ∧ (cd = 0 ∧ gn = 0))) := hg
  clear he hs hg
  go_enter Tryz.func33, Tryz.ntmps33
  go_wp2_with (first
    | (go_at_call 51; refine (kindOf_t 3 kd3 true (.inr (.inr (.inl ⟨rfl, rfl, rfl⟩))) _).mono ?_; rintro e1 w1 ⟨rfl, hb1⟩; have HS1 : Hid (Below (w.heap.size + 1) (w.alloc (.cells #[.int .i64 3, .int .u64 e, .int .u64 s, .int .i64 p, .int .i64 i, .int .i64 c, .slice da dn dc, .int .i64 cd, .slice ga gn gc] 41 (0, 0))) w1) := (by have h9 := hb1; rw [heap_alloc_size1'] at h9; exact h9); have HW1 : Hid (Below w.heap.size w w1) := below_next (al (Below.refl _ w) _) hb1; have hc1 : ∀ o, (w1.alloc o).cell? ⟨w.heap.size, 1, none⟩ = some (.int .u64 e) := (fun o => HBX.out _ (HS1.out.alloc (by have := HS1.out.size; simpa using this) o) 1 _ rfl); have hc2 : ∀ o, (w1.alloc o).cell? ⟨w.heap.size, 2, none⟩ = some (.int .u64 s) := (fun o => HBX.out _ (HS1.out.alloc (by have := HS1.out.size; simpa using this) o) 2 _ rfl); clear hb1)
    | (go_at_call_of 52 (Value.int .u64 e); refine (goodName_b e true ⟨fun _ => HE.out, fun _ => rfl⟩ _).mono ?_; rintro e2 w2 ⟨rfl, rfl⟩)
    | (go_at_call_of 52 (Value.int .u64 s); refine (goodName_b s true ⟨fun _ => HSN.out, fun _ => rfl⟩ _).mono ?_; rintro e3 w3 ⟨rfl, rfl⟩)
    | (refine wpList_load_g (by rfl) 41 _ rfl w.heap.size 0 (by rfl) [.int .i64 3, .int .u64 e, .int .u64 s, .int .i64 p, .int .i64 i, .int .i64 c, .slice da dn dc, .int .i64 cd, .slice ga gn gc] _ (HBX.out _ (HS1.out.alloc (by have := HS1.out.size; simpa using this) _)) Tryz.underlying41 rfl info_un ?_)
    | (go_at_call 85; refine (goodCancel_b 3 e s p i c da dn dc cd ga gn gc false _ ⟨(fun h => by cases h), fun h => absurd h HG.out⟩).mono ?_; rintro e4 w4 ⟨rfl, hb4⟩; have HB4 : Hid (Below w.heap.size w w4) := below_next (al HW1.out _) hb4))
  go_ret
  exact ⟨rfl, HB4.out⟩
theorem valid_3g (e s p i c : Int) (da : Option Addr) (dn dc : Nat) (cd : Int) (ga : Option Addr) (gn gc : Nat) (l : List Rg) (w : World) (he : nameOk e) (hs : nameOk s) (hg : ((p = 0 ∧ i = 0 ∧ c = 0 ∧ dn = 0) ∧ (cd = 0 ∧ gn = 0))) : Calls Tryz.prog 33 #[.agg #[.int .i64 3, .int .u64 e, .int .u64 s, .int .i64 p, .int .i64 i, .int .i64 c, .slice da dn dc, .int .i64 cd, .slice ga gn gc]] w fun e w' => e = .returned (.int .i64 0) ∧ Below w.heap.size w w' := by
  have HBX : Hid (∀ u, Below (w.heap.size + 1) (w.alloc (.cells #[.int .i64 3, .int .u64 e, .int .u64 s, .int .i64 p, .int .i64 i, .int .i64 c, .slice da dn dc, .int .i64 cd, .slice ga gn gc] 41 (0, 0))) u → u.rangeAt w.heap.size 0 [.int .i64 3, .int .u64 e, .int .u64 s, .int .i64 p, .int .i64 i, .int .i64 c, .slice da dn dc, .int .i64 cd, .slice ga gn gc]) := fun u hu => range_below (range_box w [.int .i64 3, .int .u64 e, .int .u64 s, .int .i64 p, .int .i64 i, .int .i64 c, .slice da dn dc, .int .i64 cd, .slice ga gn gc] 41) (by rw [heap_alloc_size1']; exact hu)
  have hsf := fun (u : World) (a : Addr) (n : Nat) => run_store Tryz.prog u a (.func (.func n) #[] #[]) .plain rfl
  have hsn := fun (u : World) (a : Addr) => run_store Tryz.prog u a .nilFunc .plain rfl
  have HE : Hid (nameOk e) := he
  have HSN : Hid (nameOk s) := hs
  have HG : Hid (((p = 0 ∧ i = 0 ∧ c = 0 ∧ dn = 0) ∧ (cd = 0 ∧ gn = 0))) := hg
  clear he hs hg
  go_enter Tryz.func33, Tryz.ntmps33
  go_wp2_with (first
    | (go_at_call 51; refine (kindOf_t 3 kd3 true (.inr (.inr (.inl ⟨rfl, rfl, rfl⟩))) _).mono ?_; rintro e1 w1 ⟨rfl, hb1⟩; have HS1 : Hid (Below (w.heap.size + 1) (w.alloc (.cells #[.int .i64 3, .int .u64 e, .int .u64 s, .int .i64 p, .int .i64 i, .int .i64 c, .slice da dn dc, .int .i64 cd, .slice ga gn gc] 41 (0, 0))) w1) := (by have h9 := hb1; rw [heap_alloc_size1'] at h9; exact h9); have HW1 : Hid (Below w.heap.size w w1) := below_next (al (Below.refl _ w) _) hb1; have hc1 : ∀ o, (w1.alloc o).cell? ⟨w.heap.size, 1, none⟩ = some (.int .u64 e) := (fun o => HBX.out _ (HS1.out.alloc (by have := HS1.out.size; simpa using this) o) 1 _ rfl); have hc2 : ∀ o, (w1.alloc o).cell? ⟨w.heap.size, 2, none⟩ = some (.int .u64 s) := (fun o => HBX.out _ (HS1.out.alloc (by have := HS1.out.size; simpa using this) o) 2 _ rfl); clear hb1)
    | (go_at_call_of 52 (Value.int .u64 e); refine (goodName_b e true ⟨fun _ => HE.out, fun _ => rfl⟩ _).mono ?_; rintro e2 w2 ⟨rfl, rfl⟩)
    | (go_at_call_of 52 (Value.int .u64 s); refine (goodName_b s true ⟨fun _ => HSN.out, fun _ => rfl⟩ _).mono ?_; rintro e3 w3 ⟨rfl, rfl⟩)
    | (refine wpList_load_g (by rfl) 41 _ rfl w.heap.size 0 (by rfl) [.int .i64 3, .int .u64 e, .int .u64 s, .int .i64 p, .int .i64 i, .int .i64 c, .slice da dn dc, .int .i64 cd, .slice ga gn gc] _ (HBX.out _ (HS1.out.alloc (by have := HS1.out.size; simpa using this) _)) Tryz.underlying41 rfl info_un ?_)
    | (go_at_call 85; refine (goodCancel_b 3 e s p i c da dn dc cd ga gn gc true _ ⟨fun _ => HG.out, fun _ => rfl⟩).mono ?_; rintro e4 w4 ⟨rfl, hb4⟩; have HB4 : Hid (Below w.heap.size w w4) := below_next (al HW1.out _) hb4))
  go_ret
  exact ⟨rfl, HB4.out⟩
end
end Go.Proofs.YtiedgcanndgmoaaGreatDoor
