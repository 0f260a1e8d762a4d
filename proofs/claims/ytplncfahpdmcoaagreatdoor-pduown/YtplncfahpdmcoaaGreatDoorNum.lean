import Derived.Test.YtplncfahpdmcoaaGreatDoorUK
import Derived.Test.YtplncfahpdmcoaaGreatDoorBase
namespace Go.Proofs.YtplncfahpdmcoaaGreatDoor
set_option linter.unusedVariables false
set_option linter.unusedSimpArgs false
open Go.RowKit
section
set_option maxRecDepth 20000
set_option maxHeartbeats 3200000
theorem valid_k (k e s p i c : Int) (da : Option Addr) (dn dc : Nat) (cd : Int) (ga : Option Addr) (gn gc : Nat) (l : List Rg) (w : World) (hk : k ≠ 1 ∧ k ≠ 2 ∧ k ≠ 3) : Calls Tryz.prog 23 #[.agg #[.int .i64 k, .int .u64 e, .int .u64 s, .int .i64 p, .int .i64 i, .int .i64 c, .slice da dn dc, .int .i64 cd, .slice ga gn gc]] w fun e w' => e = .returned (.int .i64 30) ∧ Below w.heap.size w w' := by
  have HBX : Hid (∀ u, Below (w.heap.size + 1) (w.alloc (.cells #[.int .i64 k, .int .u64 e, .int .u64 s, .int .i64 p, .int .i64 i, .int .i64 c, .slice da dn dc, .int .i64 cd, .slice ga gn gc] 26 (0, 0))) u → u.rangeAt w.heap.size 0 [.int .i64 k, .int .u64 e, .int .u64 s, .int .i64 p, .int .i64 i, .int .i64 c, .slice da dn dc, .int .i64 cd, .slice ga gn gc]) := fun u hu => range_below (range_box w [.int .i64 k, .int .u64 e, .int .u64 s, .int .i64 p, .int .i64 i, .int .i64 c, .slice da dn dc, .int .i64 cd, .slice ga gn gc] 26) (by rw [heap_alloc_size1']; exact hu)
  have hsf := fun (u : World) (a : Addr) (n : Nat) => run_store Tryz.prog u a (.func (.func n) #[] #[]) .plain rfl
  have hsn := fun (u : World) (a : Addr) => run_store Tryz.prog u a .nilFunc .plain rfl
  have HKN : Hid _ := hk
  clear hk
  go_enter Tryz.func23, Tryz.ntmps23
  go_wp2_with (first
    | (go_at_call 24; refine (kindOf_t k kd0 false (.inr (.inr (.inr ⟨HKN.out, rfl, rfl⟩))) _).mono ?_; rintro e1 w1 ⟨rfl, hb1⟩; have HS1 : Hid (Below (w.heap.size + 1) (w.alloc (.cells #[.int .i64 k, .int .u64 e, .int .u64 s, .int .i64 p, .int .i64 i, .int .i64 c, .slice da dn dc, .int .i64 cd, .slice ga gn gc] 26 (0, 0))) w1) := (by have h9 := hb1; rw [heap_alloc_size1'] at h9; exact h9); have HW1 : Hid (Below w.heap.size w w1) := below_next (al (Below.refl _ w) _) hb1; have hc1 : ∀ o, (w1.alloc o).cell? ⟨w.heap.size, 1, none⟩ = some (.int .u64 e) := (fun o => HBX.out _ (HS1.out.alloc (by have := HS1.out.size; simpa using this) o) 1 _ rfl); have hc2 : ∀ o, (w1.alloc o).cell? ⟨w.heap.size, 2, none⟩ = some (.int .u64 s) := (fun o => HBX.out _ (HS1.out.alloc (by have := HS1.out.size; simpa using this) o) 2 _ rfl); clear hb1))
  go_ret
  exact ⟨rfl, (al HW1.out _)⟩
theorem valid_1e (e s p i c : Int) (da : Option Addr) (dn dc : Nat) (cd : Int) (ga : Option Addr) (gn gc : Nat) (l : List Rg) (w : World) (he : ¬ nameOk e) : Calls Tryz.prog 23 #[.agg #[.int .i64 1, .int .u64 e, .int .u64 s, .int .i64 p, .int .i64 i, .int .i64 c, .slice da dn dc, .int .i64 cd, .slice ga gn gc]] w fun e w' => e = .returned (.int .i64 30) ∧ Below w.heap.size w w' := by
  have HBX : Hid (∀ u, Below (w.heap.size + 1) (w.alloc (.cells #[.int .i64 1, .int .u64 e, .int .u64 s, .int .i64 p, .int .i64 i, .int .i64 c, .slice da dn dc, .int .i64 cd, .slice ga gn gc] 26 (0, 0))) u → u.rangeAt w.heap.size 0 [.int .i64 1, .int .u64 e, .int .u64 s, .int .i64 p, .int .i64 i, .int .i64 c, .slice da dn dc, .int .i64 cd, .slice ga gn gc]) := fun u hu => range_below (range_box w [.int .i64 1, .int .u64 e, .int .u64 s, .int .i64 p, .int .i64 i, .int .i64 c, .slice da dn dc, .int .i64 cd, .slice ga gn gc] 26) (by rw [heap_alloc_size1']; exact hu)
  have hsf := fun (u : World) (a : Addr) (n : Nat) => run_store Tryz.prog u a (.func (.func n) #[] #[]) .plain rfl
  have hsn := fun (u : World) (a : Addr) => run_store Tryz.prog u a .nilFunc .plain rfl
  have HE : Hid _ := he
  clear he
  go_enter Tryz.func23, Tryz.ntmps23
  go_wp2_with (first
    | (go_at_call 24; refine (kindOf_t 1 kd1 true (.inl ⟨rfl, rfl, rfl⟩) _).mono ?_; rintro e1 w1 ⟨rfl, hb1⟩; have HS1 : Hid (Below (w.heap.size + 1) (w.alloc (.cells #[.int .i64 1, .int .u64 e, .int .u64 s, .int .i64 p, .int .i64 i, .int .i64 c, .slice da dn dc, .int .i64 cd, .slice ga gn gc] 26 (0, 0))) w1) := (by have h9 := hb1; rw [heap_alloc_size1'] at h9; exact h9); have HW1 : Hid (Below w.heap.size w w1) := below_next (al (Below.refl _ w) _) hb1; have hc1 : ∀ o, (w1.alloc o).cell? ⟨w.heap.size, 1, none⟩ = some (.int .u64 e) := (fun o => HBX.out _ (HS1.out.alloc (by have := HS1.out.size; simpa using this) o) 1 _ rfl); have hc2 : ∀ o, (w1.alloc o).cell? ⟨w.heap.size, 2, none⟩ = some (.int .u64 s) := (fun o => HBX.out _ (HS1.out.alloc (by have := HS1.out.size; simpa using this) o) 2 _ rfl); clear hb1)
    | (go_at_call_of 45 (Value.int .u64 e); refine (goodName_b e false ⟨(fun h => by cases h), fun h => absurd h HE.out⟩ _).mono ?_; rintro e2 w2 ⟨rfl, rfl⟩))
  go_ret
  exact ⟨rfl, (al HW1.out _)⟩
theorem valid_1s (e s p i c : Int) (da : Option Addr) (dn dc : Nat) (cd : Int) (ga : Option Addr) (gn gc : Nat) (l : List Rg) (w : World) (he : nameOk e) (hs : ¬ nameOk s) : Calls Tryz.prog 23 #[.agg #[.int .i64 1, .int .u64 e, .int .u64 s, .int .i64 p, .int .i64 i, .int .i64 c, .slice da dn dc, .int .i64 cd, .slice ga gn gc]] w fun e w' => e = .returned (.int .i64 30) ∧ Below w.heap.size w w' := by
  have HBX : Hid (∀ u, Below (w.heap.size + 1) (w.alloc (.cells #[.int .i64 1, .int .u64 e, .int .u64 s, .int .i64 p, .int .i64 i, .int .i64 c, .slice da dn dc, .int .i64 cd, .slice ga gn gc] 26 (0, 0))) u → u.rangeAt w.heap.size 0 [.int .i64 1, .int .u64 e, .int .u64 s, .int .i64 p, .int .i64 i, .int .i64 c, .slice da dn dc, .int .i64 cd, .slice ga gn gc]) := fun u hu => range_below (range_box w [.int .i64 1, .int .u64 e, .int .u64 s, .int .i64 p, .int .i64 i, .int .i64 c, .slice da dn dc, .int .i64 cd, .slice ga gn gc] 26) (by rw [heap_alloc_size1']; exact hu)
  have hsf := fun (u : World) (a : Addr) (n : Nat) => run_store Tryz.prog u a (.func (.func n) #[] #[]) .plain rfl
  have hsn := fun (u : World) (a : Addr) => run_store Tryz.prog u a .nilFunc .plain rfl
  have HE : Hid _ := he
  have HSN : Hid _ := hs
  clear he hs
  go_enter Tryz.func23, Tryz.ntmps23
  go_wp2_with (first
    | (go_at_call 24; refine (kindOf_t 1 kd1 true (.inl ⟨rfl, rfl, rfl⟩) _).mono ?_; rintro e1 w1 ⟨rfl, hb1⟩; have HS1 : Hid (Below (w.heap.size + 1) (w.alloc (.cells #[.int .i64 1, .int .u64 e, .int .u64 s, .int .i64 p, .int .i64 i, .int .i64 c, .slice da dn dc, .int .i64 cd, .slice ga gn gc] 26 (0, 0))) w1) := (by have h9 := hb1; rw [heap_alloc_size1'] at h9; exact h9); have HW1 : Hid (Below w.heap.size w w1) := below_next (al (Below.refl _ w) _) hb1; have hc1 : ∀ o, (w1.alloc o).cell? ⟨w.heap.size, 1, none⟩ = some (.int .u64 e) := (fun o => HBX.out _ (HS1.out.alloc (by have := HS1.out.size; simpa using this) o) 1 _ rfl); have hc2 : ∀ o, (w1.alloc o).cell? ⟨w.heap.size, 2, none⟩ = some (.int .u64 s) := (fun o => HBX.out _ (HS1.out.alloc (by have := HS1.out.size; simpa using this) o) 2 _ rfl); clear hb1)
    | (go_at_call_of 45 (Value.int .u64 e); refine (goodName_b e true ⟨fun _ => HE.out, fun _ => rfl⟩ _).mono ?_; rintro e2 w2 ⟨rfl, rfl⟩)
    | (go_at_call_of 45 (Value.int .u64 s); refine (goodName_b s false ⟨(fun h => by cases h), fun h => absurd h HSN.out⟩ _).mono ?_; rintro e3 w3 ⟨rfl, rfl⟩))
  go_ret
  exact ⟨rfl, (al HW1.out _)⟩
theorem valid_1b (e s p i c : Int) (da : Option Addr) (dn dc : Nat) (cd : Int) (ga : Option Addr) (gn gc : Nat) (l : List Rg) (w : World) (he : nameOk e) (hs : nameOk s) (hg : ¬ ((p = 1 ∨ p = 2) ∧ (0 ≤ i ∧ i < 64) ∧ (i < c ∧ c ≤ 64) ∧ (1 ≤ dn ∧ dn ≤ 1024) ∧ (cd = 0 ∧ gn = 0))) : Calls Tryz.prog 23 #[.agg #[.int .i64 1, .int .u64 e, .int .u64 s, .int .i64 p, .int .i64 i, .int .i64 c, .slice da dn dc, .int .i64 cd, .slice ga gn gc]] w fun e w' => e = .returned (.int .i64 30) ∧ Below w.heap.size w w' := by
  have HBX : Hid (∀ u, Below (w.heap.size + 1) (w.alloc (.cells #[.int .i64 1, .int .u64 e, .int .u64 s, .int .i64 p, .int .i64 i, .int .i64 c, .slice da dn dc, .int .i64 cd, .slice ga gn gc] 26 (0, 0))) u → u.rangeAt w.heap.size 0 [.int .i64 1, .int .u64 e, .int .u64 s, .int .i64 p, .int .i64 i, .int .i64 c, .slice da dn dc, .int .i64 cd, .slice ga gn gc]) := fun u hu => range_below (range_box w [.int .i64 1, .int .u64 e, .int .u64 s, .int .i64 p, .int .i64 i, .int .i64 c, .slice da dn dc, .int .i64 cd, .slice ga gn gc] 26) (by rw [heap_alloc_size1']; exact hu)
  have hsf := fun (u : World) (a : Addr) (n : Nat) => run_store Tryz.prog u a (.func (.func n) #[] #[]) .plain rfl
  have hsn := fun (u : World) (a : Addr) => run_store Tryz.prog u a .nilFunc .plain rfl
  have HE : Hid (nameOk e) := he
  have HSN : Hid (nameOk s) := hs
  have HG : Hid (¬ ((p = 1 ∨ p = 2) ∧ (0 ≤ i ∧ i < 64) ∧ (i < c ∧ c ≤ 64) ∧ (1 ≤ dn ∧ dn ≤ 1024) ∧ (cd = 0 ∧ gn = 0))) := hg
  clear he hs hg
  go_enter Tryz.func23, Tryz.ntmps23
  go_wp2_with (first
    | (go_at_call 24; refine (kindOf_t 1 kd1 true (.inl ⟨rfl, rfl, rfl⟩) _).mono ?_; rintro e1 w1 ⟨rfl, hb1⟩; have HS1 : Hid (Below (w.heap.size + 1) (w.alloc (.cells #[.int .i64 1, .int .u64 e, .int .u64 s, .int .i64 p, .int .i64 i, .int .i64 c, .slice da dn dc, .int .i64 cd, .slice ga gn gc] 26 (0, 0))) w1) := (by have h9 := hb1; rw [heap_alloc_size1'] at h9; exact h9); have HW1 : Hid (Below w.heap.size w w1) := below_next (al (Below.refl _ w) _) hb1; have hc1 : ∀ o, (w1.alloc o).cell? ⟨w.heap.size, 1, none⟩ = some (.int .u64 e) := (fun o => HBX.out _ (HS1.out.alloc (by have := HS1.out.size; simpa using this) o) 1 _ rfl); have hc2 : ∀ o, (w1.alloc o).cell? ⟨w.heap.size, 2, none⟩ = some (.int .u64 s) := (fun o => HBX.out _ (HS1.out.alloc (by have := HS1.out.size; simpa using this) o) 2 _ rfl); clear hb1)
    | (go_at_call_of 45 (Value.int .u64 e); refine (goodName_b e true ⟨fun _ => HE.out, fun _ => rfl⟩ _).mono ?_; rintro e2 w2 ⟨rfl, rfl⟩)
    | (go_at_call_of 45 (Value.int .u64 s); refine (goodName_b s true ⟨fun _ => HSN.out, fun _ => rfl⟩ _).mono ?_; rintro e3 w3 ⟨rfl, rfl⟩)
    | (refine wpList_load_g (by rfl) 26 _ rfl w.heap.size 0 (by rfl) [.int .i64 1, .int .u64 e, .int .u64 s, .int .i64 p, .int .i64 i, .int .i64 c, .slice da dn dc, .int .i64 cd, .slice ga gn gc] _ (HBX.out _ (HS1.out.alloc (by have := HS1.out.size; simpa using this) _)) Tryz.underlying26 rfl info_un ?_)
    | (go_at_call 64; refine (goodData_b 1 e s p i c da dn dc cd ga gn gc false _ ⟨(fun h => by cases h), fun h => absurd h HG.out⟩).mono ?_; rintro e4 w4 ⟨rfl, hb4⟩; have HB4 : Hid (Below w.heap.size w w4) := below_next (al HW1.out _) hb4))
  go_ret
  exact ⟨rfl, HB4.out⟩
theorem valid_1g (e s p i c : Int) (da : Option Addr) (dn dc : Nat) (cd : Int) (ga : Option Addr) (gn gc : Nat) (l : List Rg) (w : World) (he : nameOk e) (hs : nameOk s) (hg : ((p = 1 ∨ p = 2) ∧ (0 ≤ i ∧ i < 64) ∧ (i < c ∧ c ≤ 64) ∧ (1 ≤ dn ∧ dn ≤ 1024) ∧ (cd = 0 ∧ gn = 0))) : Calls Tryz.prog 23 #[.agg #[.int .i64 1, .int .u64 e, .int .u64 s, .int .i64 p, .int .i64 i, .int .i64 c, .slice da dn dc, .int .i64 cd, .slice ga gn gc]] w fun e w' => e = .returned (.int .i64 0) ∧ Below w.heap.size w w' := by
  have HBX : Hid (∀ u, Below (w.heap.size + 1) (w.alloc (.cells #[.int .i64 1, .int .u64 e, .int .u64 s, .int .i64 p, .int .i64 i, .int .i64 c, .slice da dn dc, .int .i64 cd, .slice ga gn gc] 26 (0, 0))) u → u.rangeAt w.heap.size 0 [.int .i64 1, .int .u64 e, .int .u64 s, .int .i64 p, .int .i64 i, .int .i64 c, .slice da dn dc, .int .i64 cd, .slice ga gn gc]) := fun u hu => range_below (range_box w [.int .i64 1, .int .u64 e, .int .u64 s, .int .i64 p, .int .i64 i, .int .i64 c, .slice da dn dc, .int .i64 cd, .slice ga gn gc] 26) (by rw [heap_alloc_size1']; exact hu)
  have hsf := fun (u : World) (a : Addr) (n : Nat) => run_store Tryz.prog u a (.func (.func n) #[] #[]) .plain rfl
  have hsn := fun (u : World) (a : Addr) => run_store Tryz.prog u a .nilFunc .plain rfl
  have HE : Hid (nameOk e) := he
  have HSN : Hid (nameOk s) := hs
  have HG : Hid (((p = 1 ∨ p = 2) ∧ (0 ≤ i ∧ i < 64) ∧ (i < c ∧ c ≤ 64) ∧ (1 ≤ dn ∧ dn ≤ 1024) ∧ (cd = 0 ∧ gn = 0))) := hg
  clear he hs hg
  go_enter Tryz.func23, Tryz.ntmps23
  go_wp2_with (first
    | (go_at_call 24; refine (kindOf_t 1 kd1 true (.inl ⟨rfl, rfl, rfl⟩) _).mono ?_; rintro e1 w1 ⟨rfl, hb1⟩; have HS1 : Hid (Below (w.heap.size + 1) (w.alloc (.cells #[.int .i64 1, .int .u64 e, .int .u64 s, .int .i64 p, .int .i64 i, .int .i64 c, .slice da dn dc, .int .i64 cd, .slice ga gn gc] 26 (0, 0))) w1) := (by have h9 := hb1; rw [heap_alloc_size1'] at h9; exact h9); have HW1 : Hid (Below w.heap.size w w1) := below_next (al (Below.refl _ w) _) hb1; have hc1 : ∀ o, (w1.alloc o).cell? ⟨w.heap.size, 1, none⟩ = some (.int .u64 e) := (fun o => HBX.out _ (HS1.out.alloc (by have := HS1.out.size; simpa using this) o) 1 _ rfl); have hc2 : ∀ o, (w1.alloc o).cell? ⟨w.heap.size, 2, none⟩ = some (.int .u64 s) := (fun o => HBX.out _ (HS1.out.alloc (by have := HS1.out.size; simpa using this) o) 2 _ rfl); clear hb1)
    | (go_at_call_of 45 (Value.int .u64 e); refine (goodName_b e true ⟨fun _ => HE.out, fun _ => rfl⟩ _).mono ?_; rintro e2 w2 ⟨rfl, rfl⟩)
    | (go_at_call_of 45 (Value.int .u64 s); refine (goodName_b s true ⟨fun _ => HSN.out, fun _ => rfl⟩ _).mono ?_; rintro e3 w3 ⟨rfl, rfl⟩)
    | (refine wpList_load_g (by rfl) 26 _ rfl w.heap.size 0 (by rfl) [.int .i64 1, .int .u64 e, .int .u64 s, .int .i64 p, .int .i64 i, .int .i64 c, .slice da dn dc, .int .i64 cd, .slice ga gn gc] _ (HBX.out _ (HS1.out.alloc (by have := HS1.out.size; simpa using this) _)) Tryz.underlying26 rfl info_un ?_)
    | (go_at_call 64; refine (goodData_b 1 e s p i c da dn dc cd ga gn gc true _ ⟨fun _ => HG.out, fun _ => rfl⟩).mono ?_; rintro e4 w4 ⟨rfl, hb4⟩; have HB4 : Hid (Below w.heap.size w w4) := below_next (al HW1.out _) hb4))
  go_ret
  exact ⟨rfl, HB4.out⟩
theorem valid_2e (e s p i c : Int) (da : Option Addr) (dn dc : Nat) (cd : Int) (ga : Option Addr) (gn gc : Nat) (l : List Rg) (w : World) (he : ¬ nameOk e) : Calls Tryz.prog 23 #[.agg #[.int .i64 2, .int .u64 e, .int .u64 s, .int .i64 p, .int .i64 i, .int .i64 c, .slice da dn dc, .int .i64 cd, .slice ga gn gc]] w fun e w' => e = .returned (.int .i64 30) ∧ Below w.heap.size w w' := by
  have HBX : Hid (∀ u, Below (w.heap.size + 1) (w.alloc (.cells #[.int .i64 2, .int .u64 e, .int .u64 s, .int .i64 p, .int .i64 i, .int .i64 c, .slice da dn dc, .int .i64 cd, .slice ga gn gc] 26 (0, 0))) u → u.rangeAt w.heap.size 0 [.int .i64 2, .int .u64 e, .int .u64 s, .int .i64 p, .int .i64 i, .int .i64 c, .slice da dn dc, .int .i64 cd, .slice ga gn gc]) := fun u hu => range_below (range_box w [.int .i64 2, .int .u64 e, .int .u64 s, .int .i64 p, .int .i64 i, .int .i64 c, .slice da dn dc, .int .i64 cd, .slice ga gn gc] 26) (by rw [heap_alloc_size1']; exact hu)
  have hsf := fun (u : World) (a : Addr) (n : Nat) => run_store Tryz.prog u a (.func (.func n) #[] #[]) .plain rfl
  have hsn := fun (u : World) (a : Addr) => run_store Tryz.prog u a .nilFunc .plain rfl
  have HE : Hid _ := he
  clear he
  go_enter Tryz.func23, Tryz.ntmps23
  go_wp2_with (first
    | (go_at_call 24; refine (kindOf_t 2 kd2 true (.inr (.inl ⟨rfl, rfl, rfl⟩)) _).mono ?_; rintro e1 w1 ⟨rfl, hb1⟩; have HS1 : Hid (Below (w.heap.size + 1) (w.alloc (.cells #[.int .i64 2, .int .u64 e, .int .u64 s, .int .i64 p, .int .i64 i, .int .i64 c, .slice da dn dc, .int .i64 cd, .slice ga gn gc] 26 (0, 0))) w1) := (by have h9 := hb1; rw [heap_alloc_size1'] at h9; exact h9); have HW1 : Hid (Below w.heap.size w w1) := below_next (al (Below.refl _ w) _) hb1; have hc1 : ∀ o, (w1.alloc o).cell? ⟨w.heap.size, 1, none⟩ = some (.int .u64 e) := (fun o => HBX.out _ (HS1.out.alloc (by have := HS1.out.size; simpa using this) o) 1 _ rfl); have hc2 : ∀ o, (w1.alloc o).cell? ⟨w.heap.size, 2, none⟩ = some (.int .u64 s) := (fun o => HBX.out _ (HS1.out.alloc (by have := HS1.out.size; simpa using this) o) 2 _ rfl); clear hb1)
    | (go_at_call_of 45 (Value.int .u64 e); refine (goodName_b e false ⟨(fun h => by cases h), fun h => absurd h HE.out⟩ _).mono ?_; rintro e2 w2 ⟨rfl, rfl⟩))
  go_ret
  exact ⟨rfl, (al HW1.out _)⟩
theorem valid_2s (e s p i c : Int) (da : Option Addr) (dn dc : Nat) (cd : Int) (ga : Option Addr) (gn gc : Nat) (l : List Rg) (w : World) (he : nameOk e) (hs : ¬ nameOk s) : Calls Tryz.prog 23 #[.agg #[.int .i64 2, .int .u64 e, .int .u64 s, .int .i64 p, .int .i64 i, .int .i64 c, .slice da dn dc, .int .i64 cd, .slice ga gn gc]] w fun e w' => e = .returned (.int .i64 30) ∧ Below w.heap.size w w' := by
  have HBX : Hid (∀ u, Below (w.heap.size + 1) (w.alloc (.cells #[.int .i64 2, .int .u64 e, .int .u64 s, .int .i64 p, .int .i64 i, .int .i64 c, .slice da dn dc, .int .i64 cd, .slice ga gn gc] 26 (0, 0))) u → u.rangeAt w.heap.size 0 [.int .i64 2, .int .u64 e, .int .u64 s, .int .i64 p, .int .i64 i, .int .i64 c, .slice da dn dc, .int .i64 cd, .slice ga gn gc]) := fun u hu => range_below (range_box w [.int .i64 2, .int .u64 e, .int .u64 s, .int .i64 p, .int .i64 i, .int .i64 c, .slice da dn dc, .int .i64 cd, .slice ga gn gc] 26) (by rw [heap_alloc_size1']; exact hu)
  have hsf := fun (u : World) (a : Addr) (n : Nat) => run_store Tryz.prog u a (.func (.func n) #[] #[]) .plain rfl
  have hsn := fun (u : World) (a : Addr) => run_store Tryz.prog u a .nilFunc .plain rfl
  have HE : Hid _ := he
  have HSN : Hid _ := hs
  clear he hs
  go_enter Tryz.func23, Tryz.ntmps23
  go_wp2_with (first
    | (go_at_call 24; refine (kindOf_t 2 kd2 true (.inr (.inl ⟨rfl, rfl, rfl⟩)) _).mono ?_; rintro e1 w1 ⟨rfl, hb1⟩; have HS1 : Hid (Below (w.heap.size + 1) (w.alloc (.cells #[.int .i64 2, .int .u64 e, .int .u64 s, .int .i64 p, .int .i64 i, .int .i64 c, .slice da dn dc, .int .i64 cd, .slice ga gn gc] 26 (0, 0))) w1) := (by have h9 := hb1; rw [heap_alloc_size1'] at h9; exact h9); have HW1 : Hid (Below w.heap.size w w1) := below_next (al (Below.refl _ w) _) hb1; have hc1 : ∀ o, (w1.alloc o).cell? ⟨w.heap.size, 1, none⟩ = some (.int .u64 e) := (fun o => HBX.out _ (HS1.out.alloc (by have := HS1.out.size; simpa using this) o) 1 _ rfl); have hc2 : ∀ o, (w1.alloc o).cell? ⟨w.heap.size, 2, none⟩ = some (.int .u64 s) := (fun o => HBX.out _ (HS1.out.alloc (by have := HS1.out.size; simpa using this) o) 2 _ rfl); clear hb1)
    | (go_at_call_of 45 (Value.int .u64 e); refine (goodName_b e true ⟨fun _ => HE.out, fun _ => rfl⟩ _).mono ?_; rintro e2 w2 ⟨rfl, rfl⟩)
    | (go_at_call_of 45 (Value.int .u64 s); refine (goodName_b s false ⟨(fun h => by cases h), fun h => absurd h HSN.out⟩ _).mono ?_; rintro e3 w3 ⟨rfl, rfl⟩))
  go_ret
  exact ⟨rfl, (al HW1.out _)⟩
theorem valid_2b (e s p i c : Int) (da : Option Addr) (dn dc : Nat) (cd : Int) (ga : Option Addr) (gn gc : Nat) (l : List Rg) (w : World) (hn : gn = l.length) (hx : RdR w ga l) (hl : gn ≤ 8796093022208) (hc : gn ≤ gc) (he : nameOk e) (hs : nameOk s) (hg : ¬ ((p = 0 ∧ i = 0 ∧ c = 0 ∧ dn = 0) ∧ (0 ≤ cd ∧ cd ≤ 7) ∧ gotOk l ∧ (cd = 0 ∨ gn = 0))) : Calls Tryz.prog 23 #[.agg #[.int .i64 2, .int .u64 e, .int .u64 s, .int .i64 p, .int .i64 i, .int .i64 c, .slice da dn dc, .int .i64 cd, .slice ga gn gc]] w fun e w' => e = .returned (.int .i64 30) ∧ Below w.heap.size w w' := by
  have HBX : Hid (∀ u, Below (w.heap.size + 1) (w.alloc (.cells #[.int .i64 2, .int .u64 e, .int .u64 s, .int .i64 p, .int .i64 i, .int .i64 c, .slice da dn dc, .int .i64 cd, .slice ga gn gc] 26 (0, 0))) u → u.rangeAt w.heap.size 0 [.int .i64 2, .int .u64 e, .int .u64 s, .int .i64 p, .int .i64 i, .int .i64 c, .slice da dn dc, .int .i64 cd, .slice ga gn gc]) := fun u hu => range_below (range_box w [.int .i64 2, .int .u64 e, .int .u64 s, .int .i64 p, .int .i64 i, .int .i64 c, .slice da dn dc, .int .i64 cd, .slice ga gn gc] 26) (by rw [heap_alloc_size1']; exact hu)
  have hsf := fun (u : World) (a : Addr) (n : Nat) => run_store Tryz.prog u a (.func (.func n) #[] #[]) .plain rfl
  have hsn := fun (u : World) (a : Addr) => run_store Tryz.prog u a .nilFunc .plain rfl
  have HXR : Hid (∀ u, Below w.heap.size w u → RdR u ga l) := fun u hu => hx.below hu
  have HGN : Hid (gn = l.length) := hn
  have HLC : Hid (gn ≤ 8796093022208 ∧ gn ≤ gc) := ⟨hl, hc⟩
  clear hx hn hl hc
  have HE : Hid (nameOk e) := he
  have HSN : Hid (nameOk s) := hs
  have HG : Hid (¬ ((p = 0 ∧ i = 0 ∧ c = 0 ∧ dn = 0) ∧ (0 ≤ cd ∧ cd ≤ 7) ∧ gotOk l ∧ (cd = 0 ∨ gn = 0))) := hg
  clear he hs hg
  go_enter Tryz.func23, Tryz.ntmps23
  go_wp2_with (first
    | (go_at_call 24; refine (kindOf_t 2 kd2 true (.inr (.inl ⟨rfl, rfl, rfl⟩)) _).mono ?_; rintro e1 w1 ⟨rfl, hb1⟩; have HS1 : Hid (Below (w.heap.size + 1) (w.alloc (.cells #[.int .i64 2, .int .u64 e, .int .u64 s, .int .i64 p, .int .i64 i, .int .i64 c, .slice da dn dc, .int .i64 cd, .slice ga gn gc] 26 (0, 0))) w1) := (by have h9 := hb1; rw [heap_alloc_size1'] at h9; exact h9); have HW1 : Hid (Below w.heap.size w w1) := below_next (al (Below.refl _ w) _) hb1; have hc1 : ∀ o, (w1.alloc o).cell? ⟨w.heap.size, 1, none⟩ = some (.int .u64 e) := (fun o => HBX.out _ (HS1.out.alloc (by have := HS1.out.size; simpa using this) o) 1 _ rfl); have hc2 : ∀ o, (w1.alloc o).cell? ⟨w.heap.size, 2, none⟩ = some (.int .u64 s) := (fun o => HBX.out _ (HS1.out.alloc (by have := HS1.out.size; simpa using this) o) 2 _ rfl); clear hb1)
    | (go_at_call_of 45 (Value.int .u64 e); refine (goodName_b e true ⟨fun _ => HE.out, fun _ => rfl⟩ _).mono ?_; rintro e2 w2 ⟨rfl, rfl⟩)
    | (go_at_call_of 45 (Value.int .u64 s); refine (goodName_b s true ⟨fun _ => HSN.out, fun _ => rfl⟩ _).mono ?_; rintro e3 w3 ⟨rfl, rfl⟩)
    | (refine wpList_load_g (by rfl) 26 _ rfl w.heap.size 0 (by rfl) [.int .i64 2, .int .u64 e, .int .u64 s, .int .i64 p, .int .i64 i, .int .i64 c, .slice da dn dc, .int .i64 cd, .slice ga gn gc] _ (HBX.out _ (HS1.out.alloc (by have := HS1.out.size; simpa using this) _)) Tryz.underlying26 rfl info_un ?_)
    | (go_at_call 67; refine (goodReport_b 2 e s p i c da dn dc cd ga gn gc l false _ HGN.out (HXR.out _ (al HW1.out _)) HLC.out.1 HLC.out.2 ⟨(fun h => by cases h), fun h => absurd h HG.out⟩).mono ?_; rintro e4 w4 ⟨rfl, hb4⟩; have HB4 : Hid (Below w.heap.size w w4) := below_next (al HW1.out _) hb4))
  go_ret
  exact ⟨rfl, HB4.out⟩
theorem valid_2g (e s p i c : Int) (da : Option Addr) (dn dc : Nat) (cd : Int) (ga : Option Addr) (gn gc : Nat) (l : List Rg) (w : World) (hn : gn = l.length) (hx : RdR w ga l) (hl : gn ≤ 8796093022208) (hc : gn ≤ gc) (he : nameOk e) (hs : nameOk s) (hg : ((p = 0 ∧ i = 0 ∧ c = 0 ∧ dn = 0) ∧ (0 ≤ cd ∧ cd ≤ 7) ∧ gotOk l ∧ (cd = 0 ∨ gn = 0))) : Calls Tryz.prog 23 #[.agg #[.int .i64 2, .int .u64 e, .int .u64 s, .int .i64 p, .int .i64 i, .int .i64 c, .slice da dn dc, .int .i64 cd, .slice ga gn gc]] w fun e w' => e = .returned (.int .i64 0) ∧ Below w.heap.size w w' := by
  have HBX : Hid (∀ u, Below (w.heap.size + 1) (w.alloc (.cells #[.int .i64 2, .int .u64 e, .int .u64 s, .int .i64 p, .int .i64 i, .int .i64 c, .slice da dn dc, .int .i64 cd, .slice ga gn gc] 26 (0, 0))) u → u.rangeAt w.heap.size 0 [.int .i64 2, .int .u64 e, .int .u64 s, .int .i64 p, .int .i64 i, .int .i64 c, .slice da dn dc, .int .i64 cd, .slice ga gn gc]) := fun u hu => range_below (range_box w [.int .i64 2, .int .u64 e, .int .u64 s, .int .i64 p, .int .i64 i, .int .i64 c, .slice da dn dc, .int .i64 cd, .slice ga gn gc] 26) (by rw [heap_alloc_size1']; exact hu)
  have hsf := fun (u : World) (a : Addr) (n : Nat) => run_store Tryz.prog u a (.func (.func n) #[] #[]) .plain rfl
  have hsn := fun (u : World) (a : Addr) => run_store Tryz.prog u a .nilFunc .plain rfl
  have HXR : Hid (∀ u, Below w.heap.size w u → RdR u ga l) := fun u hu => hx.below hu
  have HGN : Hid (gn = l.length) := hn
  have HLC : Hid (gn ≤ 8796093022208 ∧ gn ≤ gc) := ⟨hl, hc⟩
  clear hx hn hl hc
  have HE : Hid (nameOk e) := he
  have HSN : Hid (nameOk s) := hs
  have HG : Hid (((p = 0 ∧ i = 0 ∧ c = 0 ∧ dn = 0) ∧ (0 ≤ cd ∧ cd ≤ 7) ∧ gotOk l ∧ (cd = 0 ∨ gn = 0))) := hg
  clear he hs hg
  go_enter Tryz.func23, Tryz.ntmps23
  go_wp2_with (first
    | (go_at_call 24; refine (kindOf_t 2 kd2 true (.inr (.inl ⟨rfl, rfl, rfl⟩)) _).mono ?_; rintro e1 w1 ⟨rfl, hb1⟩; have HS1 : Hid (Below (w.heap.size + 1) (w.alloc (.cells #[.int .i64 2, .int .u64 e, .int .u64 s, .int .i64 p, .int .i64 i, .int .i64 c, .slice da dn dc, .int .i64 cd, .slice ga gn gc] 26 (0, 0))) w1) := (by have h9 := hb1; rw [heap_alloc_size1'] at h9; exact h9); have HW1 : Hid (Below w.heap.size w w1) := below_next (al (Below.refl _ w) _) hb1; have hc1 : ∀ o, (w1.alloc o).cell? ⟨w.heap.size, 1, none⟩ = some (.int .u64 e) := (fun o => HBX.out _ (HS1.out.alloc (by have := HS1.out.size; simpa using this) o) 1 _ rfl); have hc2 : ∀ o, (w1.alloc o).cell? ⟨w.heap.size, 2, none⟩ = some (.int .u64 s) := (fun o => HBX.out _ (HS1.out.alloc (by have := HS1.out.size; simpa using this) o) 2 _ rfl); clear hb1)
    | (go_at_call_of 45 (Value.int .u64 e); refine (goodName_b e true ⟨fun _ => HE.out, fun _ => rfl⟩ _).mono ?_; rintro e2 w2 ⟨rfl, rfl⟩)
    | (go_at_call_of 45 (Value.int .u64 s); refine (goodName_b s true ⟨fun _ => HSN.out, fun _ => rfl⟩ _).mono ?_; rintro e3 w3 ⟨rfl, rfl⟩)
    | (refine wpList_load_g (by rfl) 26 _ rfl w.heap.size 0 (by rfl) [.int .i64 2, .int .u64 e, .int .u64 s, .int .i64 p, .int .i64 i, .int .i64 c, .slice da dn dc, .int .i64 cd, .slice ga gn gc] _ (HBX.out _ (HS1.out.alloc (by have := HS1.out.size; simpa using this) _)) Tryz.underlying26 rfl info_un ?_)
    | (go_at_call 67; refine (goodReport_b 2 e s p i c da dn dc cd ga gn gc l true _ HGN.out (HXR.out _ (al HW1.out _)) HLC.out.1 HLC.out.2 ⟨fun _ => HG.out, fun _ => rfl⟩).mono ?_; rintro e4 w4 ⟨rfl, hb4⟩; have HB4 : Hid (Below w.heap.size w w4) := below_next (al HW1.out _) hb4))
  go_ret
  exact ⟨rfl, HB4.out⟩
theorem valid_3e (e s p i c : Int) (da : Option Addr) (dn dc : Nat) (cd : Int) (ga : Option Addr) (gn gc : Nat) (l : List Rg) (w : World) (he : ¬ nameOk e) : Calls Tryz.prog 23 #[.agg #[.int .i64 3, .int .u64 e, .int .u64 s, .int .i64 p, .int .i64 i, .int .i64 c, .slice da dn dc, .int .i64 cd, .slice ga gn gc]] w fun e w' => e = .returned (.int .i64 30) ∧ Below w.heap.size w w' := by
  have HBX : Hid (∀ u, Below (w.heap.size + 1) (w.alloc (.cells #[.int .i64 3, .int .u64 e, .int .u64 s, .int .i64 p, .int .i64 i, .int .i64 c, .slice da dn dc, .int .i64 cd, .slice ga gn gc] 26 (0, 0))) u → u.rangeAt w.heap.size 0 [.int .i64 3, .int .u64 e, .int .u64 s, .int .i64 p, .int .i64 i, .int .i64 c, .slice da dn dc, .int .i64 cd, .slice ga gn gc]) := fun u hu => range_below (range_box w [.int .i64 3, .int .u64 e, .int .u64 s, .int .i64 p, .int .i64 i, .int .i64 c, .slice da dn dc, .int .i64 cd, .slice ga gn gc] 26) (by rw [heap_alloc_size1']; exact hu)
  have hsf := fun (u : World) (a : Addr) (n : Nat) => run_store Tryz.prog u a (.func (.func n) #[] #[]) .plain rfl
  have hsn := fun (u : World) (a : Addr) => run_store Tryz.prog u a .nilFunc .plain rfl
  have HE : Hid _ := he
  clear he
  go_enter Tryz.func23, Tryz.ntmps23
  go_wp2_with (first
    | (go_at_call 24; refine (kindOf_t 3 kd3 true (.inr (.inr (.inl ⟨rfl, rfl, rfl⟩))) _).mono ?_; rintro e1 w1 ⟨rfl, hb1⟩; have HS1 : Hid (Below (w.heap.size + 1) (w.alloc (.cells #[.int .i64 3, .int .u64 e, .int .u64 s, .int .i64 p, .int .i64 i, .int .i64 c, .slice da dn dc, .int .i64 cd, .slice ga gn gc] 26 (0, 0))) w1) := (by have h9 := hb1; rw [heap_alloc_size1'] at h9; exact h9); have HW1 : Hid (Below w.heap.size w w1) := below_next (al (Below.refl _ w) _) hb1; have hc1 : ∀ o, (w1.alloc o).cell? ⟨w.heap.size, 1, none⟩ = some (.int .u64 e) := (fun o => HBX.out _ (HS1.out.alloc (by have := HS1.out.size; simpa using this) o) 1 _ rfl); have hc2 : ∀ o, (w1.alloc o).cell? ⟨w.heap.size, 2, none⟩ = some (.int .u64 s) := (fun o => HBX.out _ (HS1.out.alloc (by have := HS1.out.size; simpa using this) o) 2 _ rfl); clear hb1)
    | (go_at_call_of 45 (Value.int .u64 e); refine (goodName_b e false ⟨(fun h => by cases h), fun h => absurd h HE.out⟩ _).mono ?_; rintro e2 w2 ⟨rfl, rfl⟩))
  go_ret
  exact ⟨rfl, (al HW1.out _)⟩
theorem valid_3s (e s p i c : Int) (da : Option Addr) (dn dc : Nat) (cd : Int) (ga : Option Addr) (gn gc : Nat) (l : List Rg) (w : World) (he : nameOk e) (hs : ¬ nameOk s) : Calls Tryz.prog 23 #[.agg #[.int .i64 3, .int .u64 e, .int .u64 s, .int .i64 p, .int .i64 i, .int .i64 c, .slice da dn dc, .int .i64 cd, .slice ga gn gc]] w fun e w' => e = .returned (.int .i64 30) ∧ Below w.heap.size w w' := by
  have HBX : Hid (∀ u, Below (w.heap.size + 1) (w.alloc (.cells #[.int .i64 3, .int .u64 e, .int .u64 s, .int .i64 p, .int .i64 i, .int .i64 c, .slice da dn dc, .int .i64 cd, .slice ga gn gc] 26 (0, 0))) u → u.rangeAt w.heap.size 0 [.int .i64 3, .int .u64 e, .int .u64 s, .int .i64 p, .int .i64 i, .int .i64 c, .slice da dn dc, .int .i64 cd, .slice ga gn gc]) := fun u hu => range_below (range_box w [.int .i64 3, .int .u64 e, .int .u64 s, .int .i64 p, .int .i64 i, .int .i64 c, .slice da dn dc, .int .i64 cd, .slice ga gn gc] 26) (by rw [heap_alloc_size1']; exact hu)
  have hsf := fun (u : World) (a : Addr) (n : Nat) => run_store Tryz.prog u a (.func (.func n) #[] #[]) .plain rfl
  have hsn := fun (u : World) (a : Addr) => run_store Tryz.prog u a .nilFunc .plain rfl
  have HE : Hid _ := he
  have HSN : Hid _ := hs
  clear he hs
  go_enter Tryz.func23, Tryz.ntmps23
  go_wp2_with (first
    | (go_at_call 24; refine (kindOf_t 3 kd3 true (.inr (.inr (.inl ⟨rfl, rfl, rfl⟩))) _).mono ?_; rintro e1 w1 ⟨rfl, hb1⟩; have HS1 : Hid (Below (w.heap.size + 1) (w.alloc (.cells #[.int .i64 3, .int .u64 e, .int .u64 s, .int .i64 p, .int .i64 i, .int .i64 c, .slice da dn dc, .int .i64 cd, .slice ga gn gc] 26 (0, 0))) w1) := (by have h9 := hb1; rw [heap_alloc_size1'] at h9; exact h9); have HW1 : Hid (Below w.heap.size w w1) := below_next (al (Below.refl _ w) _) hb1; have hc1 : ∀ o, (w1.alloc o).cell? ⟨w.heap.size, 1, none⟩ = some (.int .u64 e) := (fun o => HBX.out _ (HS1.out.alloc (by have := HS1.out.size; simpa using this) o) 1 _ rfl); have hc2 : ∀ o, (w1.alloc o).cell? ⟨w.heap.size, 2, none⟩ = some (.int .u64 s) := (fun o => HBX.out _ (HS1.out.alloc (by have := HS1.out.size; simpa using this) o) 2 _ rfl); clear hb1)
    | (go_at_call_of 45 (Value.int .u64 e); refine (goodName_b e true ⟨fun _ => HE.out, fun _ => rfl⟩ _).mono ?_; rintro e2 w2 ⟨rfl, rfl⟩)
    | (go_at_call_of 45 (Value.int .u64 s); refine (goodName_b s false ⟨(fun h => by cases h), fun h => absurd h HSN.out⟩ _).mono ?_; rintro e3 w3 ⟨rfl, rfl⟩))
  go_ret
  exact ⟨rfl, (al HW1.out _)⟩
theorem valid_3b (e s p i c : Int) (da : Option Addr) (dn dc : Nat) (cd : Int) (ga : Option Addr) (gn gc : Nat) (l : List Rg) (w : World) (he : nameOk e) (hs : nameOk s) (hg : ¬ ((p = 0 ∧ i = 0 ∧ c = 0 ∧ dn = 0) ∧ (cd = 0 ∧ gn = 0))) : Calls Tryz.prog 23 #[.agg #[.int .i64 3, .int .u64 e, .int .u64 s, .int .i64 p, .int .i64 i, .int .i64 c, .slice da dn dc, .int .i64 cd, .slice ga gn gc]] w fun e w' => e = .returned (.int .i64 30) ∧ Below w.heap.size w w' := by
  have HBX : Hid (∀ u, Below (w.heap.size + 1) (w.alloc (.cells #[.int .i64 3, .int .u64 e, .int .u64 s, .int .i64 p, .int .i64 i, .int .i64 c, .slice da dn dc, .int .i64 cd, .slice ga gn gc] 26 (0, 0))) u → u.rangeAt w.heap.size 0 [.int .i64 3, .int .u64 e, .int .u64 s, .int .i64 p, .int .i64 i, .int .i64 c, .slice da dn dc, .int .i64 cd, .slice ga gn gc]) := fun u hu => range_below (range_box w [.int .i64 3, .int .u64 e, .int .u64 s, .int .i64 p, .int .i64 i, .int .i64 c, .slice da dn dc, .int .i64 cd, .slice ga gn gc] 26) (by rw [heap_alloc_size1']; exact hu)
  have hsf := fun (u : World) (a : Addr) (n : Nat) => run_store Tryz.prog u a (.func (.func n) #[] #[]) .plain rfl
  have hsn := fun (u : World) (a : Addr) => run_store Tryz.prog u a .nilFunc .plain rfl
  have HE : Hid (nameOk e) := he
  have HSN : Hid (nameOk s) := hs
  have HG : Hid (¬ ((p = 0 ∧ i = 0 ∧ c = 0 ∧ dn = 0) ∧ (cd = 0 ∧ gn = 0))) := hg
  clear he hs hg
  go_enter Tryz.func23, Tryz.ntmps23
  go_wp2_with (first
    | (go_at_call 24; refine (kindOf_t 3 kd3 true (.inr (.inr (.inl ⟨rfl, rfl, rfl⟩))) _).mono ?_; rintro e1 w1 ⟨rfl, hb1⟩; have HS1 : Hid (Below (w.heap.size + 1) (w.alloc (.cells #[.int .i64 3, .int .u64 e, .int .u64 s, .int .i64 p, .int .i64 i, .int .i64 c, .slice da dn dc, .int .i64 cd, .slice ga gn gc] 26 (0, 0))) w1) := (by have h9 := hb1; rw [heap_alloc_size1'] at h9; exact h9); have HW1 : Hid (Below w.heap.size w w1) := below_next (al (Below.refl _ w) _) hb1; have hc1 : ∀ o, (w1.alloc o).cell? ⟨w.heap.size, 1, none⟩ = some (.int .u64 e) := (fun o => HBX.out _ (HS1.out.alloc (by have := HS1.out.size; simpa using this) o) 1 _ rfl); have hc2 : ∀ o, (w1.alloc o).cell? ⟨w.heap.size, 2, none⟩ = some (.int .u64 s) := (fun o => HBX.out _ (HS1.out.alloc (by have := HS1.out.size; simpa using this) o) 2 _ rfl); clear hb1)
    | (go_at_call_of 45 (Value.int .u64 e); refine (goodName_b e true ⟨fun _ => HE.out, fun _ => rfl⟩ _).mono ?_; rintro e2 w2 ⟨rfl, rfl⟩)
    | (go_at_call_of 45 (Value.int .u64 s); refine (goodName_b s true ⟨fun _ => HSN.out, fun _ => rfl⟩ _).mono ?_; rintro e3 w3 ⟨rfl, rfl⟩)
    | (refine wpList_load_g (by rfl) 26 _ rfl w.heap.size 0 (by rfl) [.int .i64 3, .int .u64 e, .int .u64 s, .int .i64 p, .int .i64 i, .int .i64 c, .slice da dn dc, .int .i64 cd, .slice ga gn gc] _ (HBX.out _ (HS1.out.alloc (by have := HS1.out.size; simpa using this) _)) Tryz.underlying26 rfl info_un ?_)
    | (go_at_call 70; refine (goodCancel_b 3 e s p i c da dn dc cd ga gn gc false _ ⟨(fun h => by cases h), fun h => absurd h HG.out⟩).mono ?_; rintro e4 w4 ⟨rfl, hb4⟩; have HB4 : Hid (Below w.heap.size w w4) := below_next (al HW1.out _) hb4))
  go_ret
  exact ⟨rfl, HB4.out⟩
theorem valid_3g (e s p i c : Int) (da : Option Addr) (dn dc : Nat) (cd : Int) (ga : Option Addr) (gn gc : Nat) (l : List Rg) (w : World) (he : nameOk e) (hs : nameOk s) (hg : ((p = 0 ∧ i = 0 ∧ c = 0 ∧ dn = 0) ∧ (cd = 0 ∧ gn = 0))) : Calls Tryz.prog 23 #[.agg #[.int .i64 3, .int .u64 e, .int .u64 s, .int .i64 p, .int .i64 i, .int .i64 c, .slice da dn dc, .int .i64 cd, .slice ga gn gc]] w fun e w' => e = .returned (.int .i64 0) ∧ Below w.heap.size w w' := by
  have HBX : Hid (∀ u, Below (w.heap.size + 1) (w.alloc (.cells #[.int .i64 3, .int .u64 e, .int .u64 s, .int .i64 p, .int .i64 i, .int .i64 c, .slice da dn dc, .int .i64 cd, .slice ga gn gc] 26 (0, 0))) u → u.rangeAt w.heap.size 0 [.int .i64 3, .int .u64 e, .int .u64 s, .int .i64 p, .int .i64 i, .int .i64 c, .slice da dn dc, .int .i64 cd, .slice ga gn gc]) := fun u hu => range_below (range_box w [.int .i64 3, .int .u64 e, .int .u64 s, .int .i64 p, .int .i64 i, .int .i64 c, .slice da dn dc, .int .i64 cd, .slice ga gn gc] 26) (by rw [heap_alloc_size1']; exact hu)
  have hsf := fun (u : World) (a : Addr) (n : Nat) => run_store Tryz.prog u a (.func (.func n) #[] #[]) .plain rfl
  have hsn := fun (u : World) (a : Addr) => run_store Tryz.prog u a .nilFunc .plain rfl
  have HE : Hid (nameOk e) := he
  have HSN : Hid (nameOk s) := hs
  have HG : Hid (((p = 0 ∧ i = 0 ∧ c = 0 ∧ dn = 0) ∧ (cd = 0 ∧ gn = 0))) := hg
  clear he hs hg
  go_enter Tryz.func23, Tryz.ntmps23
  go_wp2_with (first
    | (go_at_call 24; refine (kindOf_t 3 kd3 true (.inr (.inr (.inl ⟨rfl, rfl, rfl⟩))) _).mono ?_; rintro e1 w1 ⟨rfl, hb1⟩; have HS1 : Hid (Below (w.heap.size + 1) (w.alloc (.cells #[.int .i64 3, .int .u64 e, .int .u64 s, .int .i64 p, .int .i64 i, .int .i64 c, .slice da dn dc, .int .i64 cd, .slice ga gn gc] 26 (0, 0))) w1) := (by have h9 := hb1; rw [heap_alloc_size1'] at h9; exact h9); have HW1 : Hid (Below w.heap.size w w1) := below_next (al (Below.refl _ w) _) hb1; have hc1 : ∀ o, (w1.alloc o).cell? ⟨w.heap.size, 1, none⟩ = some (.int .u64 e) := (fun o => HBX.out _ (HS1.out.alloc (by have := HS1.out.size; simpa using this) o) 1 _ rfl); have hc2 : ∀ o, (w1.alloc o).cell? ⟨w.heap.size, 2, none⟩ = some (.int .u64 s) := (fun o => HBX.out _ (HS1.out.alloc (by have := HS1.out.size; simpa using this) o) 2 _ rfl); clear hb1)
    | (go_at_call_of 45 (Value.int .u64 e); refine (goodName_b e true ⟨fun _ => HE.out, fun _ => rfl⟩ _).mono ?_; rintro e2 w2 ⟨rfl, rfl⟩)
    | (go_at_call_of 45 (Value.int .u64 s); refine (goodName_b s true ⟨fun _ => HSN.out, fun _ => rfl⟩ _).mono ?_; rintro e3 w3 ⟨rfl, rfl⟩)
    | (refine wpList_load_g (by rfl) 26 _ rfl w.heap.size 0 (by rfl) [.int .i64 3, .int .u64 e, .int .u64 s, .int .i64 p, .int .i64 i, .int .i64 c, .slice da dn dc, .int .i64 cd, .slice ga gn gc] _ (HBX.out _ (HS1.out.alloc (by have := HS1.out.size; simpa using this) _)) Tryz.underlying26 rfl info_un ?_)
    | (go_at_call 70; refine (goodCancel_b 3 e s p i c da dn dc cd ga gn gc true _ ⟨fun _ => HG.out, fun _ => rfl⟩).mono ?_; rintro e4 w4 ⟨rfl, hb4⟩; have HB4 : Hid (Below w.heap.size w w4) := below_next (al HW1.out _) hb4))
  go_ret
  exact ⟨rfl, HB4.out⟩
end
end Go.Proofs.YtplncfahpdmcoaaGreatDoor
namespace Go.Proofs.YtplncfahpdmcoaaGreatDoor
set_option linter.unusedVariables false
set_option linter.unusedSimpArgs false
open Go.RowKit

/-- the digits above the last one -/
def hiF : Nat → Nat → List UInt8
  | 0, _ => []
  | f + 1, n => if n = 0 then [] else hiF f (n / 128) ++ [UInt8.ofNat (n % 128 + 128)]
def hiD (n : Nat) : List UInt8 := hiF n n
/-- the bytes of a number -/
def dg (n : Nat) : List UInt8 := hiD (n / 128) ++ [UInt8.ofNat (n % 128)]
theorem hiF_zero (f : Nat) : hiF f 0 = [] := by cases f <;> simp [hiF]
theorem hiF_same : ∀ (f g n : Nat), n ≤ f → n ≤ g → hiF f n = hiF g n
  | 0, g, n, hf, _ => by obtain rfl : n = 0 := by omega
                         rw [hiF_zero, hiF_zero]
  | f + 1, 0, n, _, hg => by obtain rfl : n = 0 := by omega
                             rw [hiF_zero, hiF_zero]
  | f + 1, g + 1, n, hf, hg => by
    simp only [hiF]
    by_cases h : n = 0
    · rw [if_pos h, if_pos h]
    · rw [if_neg h, if_neg h, hiF_same f g (n / 128) (by omega) (by omega)]
theorem hiD_zero : hiD 0 = [] := hiF_zero 0
theorem hiD_pos (n : Nat) (h : n ≠ 0) : hiD n = hiD (n / 128) ++ [UInt8.ofNat (n % 128 + 128)] := by
  obtain ⟨m, rfl⟩ : ∃ m, n = m + 1 := ⟨n - 1, by omega⟩
  unfold hiD
  rw [hiF, if_neg h, hiF_same m ((m + 1) / 128) _ (by omega) (Nat.le_refl _)]
theorem hiD_len (k : Nat) : ∀ n, n < 128 ^ k → (hiD n).length ≤ k := by
  induction k with
  | zero => intro n h; have : n = 0 := by simp at h; exact h
            subst this; simp [hiD_zero]
  | succ k ih =>
    intro n h
    by_cases h0 : n = 0
    · subst h0; simp [hiD_zero]
    · rw [hiD_pos n h0, List.length_append]
      have := ih (n / 128) (by rw [Nat.pow_succ] at h; omega)
      simp only [List.length_cons, List.length_nil]; omega
theorem dg_len (n : Nat) (h : n < 18446744073709551616) : 1 ≤ (dg n).length ∧ (dg n).length ≤ 10 := by
  unfold dg
  have := hiD_len 9 (n / 128) (by omega)
  simp only [List.length_append, List.length_cons, List.length_nil]; omega

theorem pow_lim (m k : Nat) (h : m < 128 ^ (k + 1)) (h' : 128 ≤ m) : 1 ≤ k ∧ m / 128 < 128 ^ k := by
  rw [Nat.pow_succ] at h
  refine ⟨?_, by omega⟩
  rcases k with _ | k
  · simp at h; omega
  · omega
theorem u8_lo (m : Nat) : ((UInt8.ofNat (m % 128)).toNat : Int) = ((m % 128 : Nat) : Int) := by
  rw [UInt8.toNat_ofNat']; omega
theorem u8_hi (m : Nat) : ((UInt8.ofNat (m % 128 + 128)).toNat : Int) = ((m % 128 + 128 : Nat) : Int) := by
  rw [UInt8.toNat_ofNat']; omega

set_option maxRecDepth 20000 in
set_option maxHeartbeats 400000 in
theorem digits_any (n : Nat) (w : World) (hn : n < 18446744073709551616) :
    Calls Tryz.prog 73 #[.int .u64 n] w fun e w' => ∃ k : Nat, k + (dg n).length = 10 ∧ e = .returned (.slice (some ⟨w.heap.size, k, none⟩) (dg n).length (dg n).length) ∧ Rd w' (some ⟨w.heap.size, k, none⟩) (dg n) ∧ Below w.heap.size w w' ∧ w.heap.size < w'.heap.size := by
  have hmk : ∀ u : World, (Instr.makeSlice 23 (.int .i64 10) (.int .i64 10)).run Tryz.prog u =
      .ok (.slice (some ⟨u.heap.size, 0, none⟩) 10 10) (u.alloc (.cells #[.int .u8 0, .int .u8 0, .int .u8 0, .int .u8 0, .int .u8 0, .int .u8 0, .int .u8 0, .int .u8 0, .int .u8 0, .int .u8 0] 5)) := fun _ => by kernel_rfl
  go_enter Tryz.func73, Tryz.ntmps73
  go_wp2
  go_loopw [0, 4] (fun v i wr => ∃ (m k : Nat) (C : Array Value) (suf : List UInt8), v = .int .u64 m ∧ i = .int .i64 k ∧ k ≤ 9 ∧ m ≤ n ∧ m < 128 ^ (k + 1) ∧ wr = w.alloc (.cells C 5) ∧ C.size = 10 ∧ k + suf.length = 10 ∧
      dg n = hiD (m / 128) ++ suf ∧ ∀ j (h : j < suf.length), C[k + j]? = some (.int .u8 (suf[j].toNat : Int))) (fun v _ _ => (intOf v).toNat)
  case atStart =>
    refine ⟨n, 9, _, [UInt8.ofNat (n % 128)], rfl, rfl, by omega, by omega, by omega, rfl, rfl, rfl, rfl, ?_⟩
    intro j hj
    simp at hj
    subst hj
    simp
    omega
  case round =>
    obtain ⟨m, k, C, suf, rfl, rfl, hk, hmn, hm, rfl, hC, hs, hd, hc⟩ := hrel
    have hm64 : m < 18446744073709551616 := by omega
    have HD : Hid (dg n = hiD (m / 128) ++ suf) := hd
    have HS : Hid (k + suf.length = 10) := hs
    have HM : Hid (m < 128 ^ (k + 1)) := hm
    have HC : Hid (∀ j (h : j < suf.length), C[k + j]? = some (.int .u8 (suf[j].toNat : Int))) := hc
    clear hd hs hm hc hmk hn
    by_cases hlt : 128 ≤ m
    · obtain ⟨hk1, hm1⟩ := pow_lim m k HM.out hlt
      have HM1 : Hid (m / 128 < 128 ^ k) := hm1
      clear hm1
      obtain ⟨old, hold⟩ : ∃ old, C[k - 1]? = some old := ⟨C[k - 1]'(by omega), by rw [Array.getElem?_eq_getElem]⟩
      have hwr : IntKind.u64.wrap ((m : Int) / 128) = ((m / 128 : Nat) : Int) := by rw [IntKind.wrap_u64]; omega
      generalize hq : m / 128 = q at *
      have HQ : Hid (m / 128 = q) := hq
      have hqm : q < m := by omega
      have HCs : Hid (C.size = 10) := hC
      clear hq hC
      go_wp2
      go_roundw
      case rel =>
        refine ⟨q, k - 1, _, UInt8.ofNat (q % 128 + 128) :: suf, rfl, by go_num, by omega, by omega, ?_, rfl, ?_, ?_, ?_, ?_⟩
        · rw [show k - 1 + 1 = k from by omega]; exact HM1.out
        · simpa using HCs.out
        · have := HS.out; simp only [List.length_cons]; omega
        · have h1 := HD.out; rw [hiD_pos q (by have := HQ.out; omega)] at h1; rw [h1]; simp
        · intro j hj
          have hsz := HCs.out
          rcases j with _ | j
          · simp only [Nat.add_zero, List.getElem_cons_zero]
            rw [Array.getElem?_setIfInBounds_self_of_lt (by omega), u8_hi]
            simp
          · have h2 := HC.out j (by simpa using hj)
            simp only [List.getElem_cons_succ]
            rw [Array.getElem?_setIfInBounds_ne (by omega), show k - 1 + (j + 1) = k + j from by omega]
            exact h2
      case measure => simp [intOf]; omega
    · go_wp2
      have h0 : m / 128 = 0 := by omega
      have hd := HD.out
      rw [h0, hiD_zero, List.nil_append] at hd
      have hs := HS.out
      go_ret
      refine ⟨k, by rw [hd]; omega, ?_, ?_, ?_, ?_⟩
      · rw [hd]
        simp
        omega
      · rw [hd]
        intro _
        refine ⟨_, _, rfl, fun i hi => ?_⟩
        have h1 := HC.out i hi
        simpa [World.cell?_alloc_at] using h1
      · exact (Below.refl _ _).alloc (Nat.le_refl _) _
      · simp
end Go.Proofs.YtplncfahpdmcoaaGreatDoor
