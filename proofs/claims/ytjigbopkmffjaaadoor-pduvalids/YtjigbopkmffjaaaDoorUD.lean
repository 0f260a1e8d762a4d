import Derived.Test.YtjigbopkmffjaaaDoorUL
namespace Go.Proofs.YtjigbopkmffjaaaDoor
set_option linter.unusedVariables false
set_option linter.unusedSimpArgs false
open Go.RowKit
theorem rdn_lit (w : World) (C : Array Value) (t : TypeId) (ns : List Nat) (h : C.toList = ns.map fun n => Value.int .u64 (n : Nat)) : RdN (w.alloc (.cells C t (0, 0))) w.heap.size ns := fun j hj => by
  rw [cell_of_row _ _ _ _ _ _ (heap_alloc_new w _), ← Array.getElem?_toList, h]
  simp [hj]
section
set_option maxRecDepth 20000
set_option maxHeartbeats 3200000
theorem layCancel_t (ao : Option Addr) (n cap : Nat) (xs : List UInt8) (hn : n = xs.length) (k e s p i c : Int) (da : Option Addr) (dn dc : Nat) (cd : Int) (ga : Option Addr) (gn gc : Nat) (w : World) (hx : Rd w ao xs) (hnil : ao = none → cap = 0) :
    Calls Tryd.prog 86 #[.slice ao n cap, .agg #[.int .i64 k, .int .u64 e, .int .u64 s, .int .i64 p, .int .i64 i, .int .i64 c, .slice da dn dc, .int .i64 cd, .slice ga gn gc]] w fun e w' => StrOut xs w e w' := by
  have HN : Hid _ := hn
  have HX : Hid (Rd w ao xs) := hx
  have HNL : Hid _ := hnil
  clear hn hx hnil
  go_enter Tryd.func86, Tryd.ntmps86
  go_wp2
  go_ret
  exact ⟨ao, n, cap, rfl, HN.out, HX.out.alloc _, HNL.out, al (Below.refl _ _) _⟩
theorem layData_t (ao : Option Addr) (n cap : Nat) (xs : List UInt8) (hn : n = xs.length) (k e s : Int) (P I C : Nat) (da : Option Addr) (dn dc : Nat) (ds : List UInt8) (hdn : dn = ds.length) (cd : Int) (ga : Option Addr) (gn gc : Nat) (w : World) (hx : Rd w ao xs) (hnil : ao = none → cap = 0) (hd : Rd w da ds) (hdnil : da = none → dc = 0) (hl : n ≤ 1048576) (hP : P ≤ 64) (hI : I ≤ 64) (hC : C ≤ 64) (hdl : dn ≤ 1024) :
    Calls Tryd.prog 80 #[.slice ao n cap, .agg #[.int .i64 k, .int .u64 e, .int .u64 s, .int .i64 (P : Nat), .int .i64 (I : Nat), .int .i64 (C : Nat), .slice da dn dc, .int .i64 cd, .slice ga gn gc]] w fun e w' => StrOut (xs ++ dgs [P, I, C] ++ (dg ds.length ++ ds)) w e w' := by
  have HBX : Hid (∀ u, Below (w.heap.size + 1) (w.alloc (.cells #[.int .i64 k, .int .u64 e, .int .u64 s, .int .i64 (P : Nat), .int .i64 (I : Nat), .int .i64 (C : Nat), .slice da dn dc, .int .i64 cd, .slice ga gn gc] 26 (0, 0))) u → u.rangeAt w.heap.size 0 [.int .i64 k, .int .u64 e, .int .u64 s, .int .i64 (P : Nat), .int .i64 (I : Nat), .int .i64 (C : Nat), .slice da dn dc, .int .i64 cd, .slice ga gn gc]) := fun u hu => range_below (range_box w [.int .i64 k, .int .u64 e, .int .u64 s, .int .i64 (P : Nat), .int .i64 (I : Nat), .int .i64 (C : Nat), .slice da dn dc, .int .i64 cd, .slice ga gn gc] 26) (by rw [heap_alloc_size1']; exact hu)
  have hc3 : ∀ u, Below (w.heap.size + 1) (w.alloc (.cells #[.int .i64 k, .int .u64 e, .int .u64 s, .int .i64 (P : Nat), .int .i64 (I : Nat), .int .i64 (C : Nat), .slice da dn dc, .int .i64 cd, .slice ga gn gc] 26 (0, 0))) u → u.cell? ⟨w.heap.size, 3, none⟩ = some (.int .i64 (P : Nat)) := fun u hu => HBX.out u hu 3 _ rfl
  have hc4 : ∀ u, Below (w.heap.size + 1) (w.alloc (.cells #[.int .i64 k, .int .u64 e, .int .u64 s, .int .i64 (P : Nat), .int .i64 (I : Nat), .int .i64 (C : Nat), .slice da dn dc, .int .i64 cd, .slice ga gn gc] 26 (0, 0))) u → u.cell? ⟨w.heap.size, 4, none⟩ = some (.int .i64 (I : Nat)) := fun u hu => HBX.out u hu 4 _ rfl
  have hc5 : ∀ u, Below (w.heap.size + 1) (w.alloc (.cells #[.int .i64 k, .int .u64 e, .int .u64 s, .int .i64 (P : Nat), .int .i64 (I : Nat), .int .i64 (C : Nat), .slice da dn dc, .int .i64 cd, .slice ga gn gc] 26 (0, 0))) u → u.cell? ⟨w.heap.size, 5, none⟩ = some (.int .i64 (C : Nat)) := fun u hu => HBX.out u hu 5 _ rfl
  have hc6 : ∀ u, Below (w.heap.size + 1) (w.alloc (.cells #[.int .i64 k, .int .u64 e, .int .u64 s, .int .i64 (P : Nat), .int .i64 (I : Nat), .int .i64 (C : Nat), .slice da dn dc, .int .i64 cd, .slice ga gn gc] 26 (0, 0))) u → u.cell? ⟨w.heap.size, 6, none⟩ = some (.slice da dn dc) := fun u hu => HBX.out u hu 6 _ rfl
  have hwP : IntKind.u64.wrap (P : Int) = (P : Int) := by rw [IntKind.wrap_u64]; omega
  have hwI : IntKind.u64.wrap (I : Int) = (I : Int) := by rw [IntKind.wrap_u64]; omega
  have hwC : IntKind.u64.wrap (C : Int) = (C : Int) := by rw [IntKind.wrap_u64]; omega
  have HS0 : Hid (Below (w.heap.size + 1) (w.alloc (.cells #[.int .i64 k, .int .u64 e, .int .u64 s, .int .i64 (P : Nat), .int .i64 (I : Nat), .int .i64 (C : Nat), .slice da dn dc, .int .i64 cd, .slice ga gn gc] 26 (0, 0))) (w.alloc (.cells #[.int .i64 k, .int .u64 e, .int .u64 s, .int .i64 (P : Nat), .int .i64 (I : Nat), .int .i64 (C : Nat), .slice da dn dc, .int .i64 cd, .slice ga gn gc] 26 (0, 0)))) := Below.refl _ _
  have HW : Hid (∀ u, Below (w.heap.size + 1) (w.alloc (.cells #[.int .i64 k, .int .u64 e, .int .u64 s, .int .i64 (P : Nat), .int .i64 (I : Nat), .int .i64 (C : Nat), .slice da dn dc, .int .i64 cd, .slice ga gn gc] 26 (0, 0))) u → Below w.heap.size w u) := fun u hu => (al (Below.refl _ w) _).trans (hu.mono (by omega))
  have HRX : Hid (∀ u, Below w.heap.size w u → Rd u ao xs) := fun u hu => hx.below hu
  have HRD : Hid (∀ u, Below w.heap.size w u → Rd u da ds) := fun u hu => hd.below hu
  have HN : Hid (n = xs.length ∧ n ≤ 1048576) := ⟨hn, hl⟩
  have HNL : Hid (ao = none → cap = 0) := hnil
  have HDN : Hid (dn = ds.length ∧ dn ≤ 1024) := ⟨hdn, hdl⟩
  have HDL : Hid (da = none → dc = 0) := hdnil
  have HLT : Hid (∀ n ∈ [P, I, C], n < 18446744073709551616) := fun n hn => by simp at hn; omega
  clear hx hd hn hl hnil hdn hdl hdnil
  go_enter Tryd.func80, Tryd.ntmps80
  go_wp2_with fail
  have hS0 := HS0.out
  have hSal : ∀ o, Below (w.heap.size + 1) (w.alloc (.cells #[.int .i64 k, .int .u64 e, .int .u64 s, .int .i64 (P : Nat), .int .i64 (I : Nat), .int .i64 (C : Nat), .slice da dn dc, .int .i64 cd, .slice ga gn gc] 26 (0, 0))) ((w.alloc (.cells #[.int .i64 k, .int .u64 e, .int .u64 s, .int .i64 (P : Nat), .int .i64 (I : Nat), .int .i64 (C : Nat), .slice da dn dc, .int .i64 cd, .slice ga gn gc] 26 (0, 0))).drew.alloc o) := fun o => hS0.drew.alloc (by simp) o
  have HSAL : Hid _ := hSal
  clear hSal
  have HNS : Hid (RdN ((w.alloc (.cells #[.int .i64 k, .int .u64 e, .int .u64 s, .int .i64 (P : Nat), .int .i64 (I : Nat), .int .i64 (C : Nat), .slice da dn dc, .int .i64 cd, .slice ga gn gc] 26 (0, 0))).drew.alloc (.cells #[.int .u64 (P : Nat), .int .u64 (I : Nat), .int .u64 (C : Nat)] 22 (0, 0))) (w.heap.size + 1) [P, I, C]) := by
    have h9 := rdn_lit (w.alloc (.cells #[.int .i64 k, .int .u64 e, .int .u64 s, .int .i64 (P : Nat), .int .i64 (I : Nat), .int .i64 (C : Nat), .slice da dn dc, .int .i64 cd, .slice ga gn gc] 26 (0, 0))).drew #[.int .u64 (P : Nat), .int .u64 (I : Nat), .int .u64 (C : Nat)] 22 [P, I, C] rfl
    rw [show (w.alloc (.cells #[.int .i64 k, .int .u64 e, .int .u64 s, .int .i64 (P : Nat), .int .i64 (I : Nat), .int .i64 (C : Nat), .slice da dn dc, .int .i64 cd, .slice ga gn gc] 26 (0, 0))).drew.heap.size = w.heap.size + 1 from heap_alloc_size1' _ _] at h9
    exact h9
  refine wp_region_noPanic ?_
  refine wp_region_held_drew (S := (fun u => Below (w.heap.size + 1) (w.alloc (.cells #[.int .i64 k, .int .u64 e, .int .u64 s, .int .i64 (P : Nat), .int .i64 (I : Nat), .int .i64 (C : Nat), .slice da dn dc, .int .i64 cd, .slice ga gn gc] 26 (0, 0))) u)) (by kernel_rfl) (by first | exact hS0.drew | assumption | exact hS3 | exact hS2 | exact HSAL.out _) (fun hHeld => ?_)
  refine take_at (i := 0) 5 (v := ?_) rfl rfl (by kernel_rfl) (by kernel_rfl) (by kernel_rfl) (fun _ _ _ h => h) (by rfl) ?_ hHeld ?_
  rotate_left
  · (intro w hSw; (try dsimp only at hSw); go_simp; try with_reducible rfl)
  simp only [Act.put, List.setIfInBounds_toArray, List.set_cons_zero, List.set_cons_succ]
  refine take_at (i := 1) 6 (v := ?_) rfl rfl (by kernel_rfl) (by kernel_rfl) (by kernel_rfl) (fun _ _ _ h => h) (by rfl) ?_ hHeld ?_
  rotate_left
  · (intro w hSw; (try dsimp only at hSw); go_simp; try with_reducible rfl)
  simp only [Act.put, List.setIfInBounds_toArray, List.set_cons_zero, List.set_cons_succ]
  refine take_at (i := 2) 7 (v := ?_) rfl rfl (by kernel_rfl) (by kernel_rfl) (by kernel_rfl) (fun _ _ _ h => h) (by rfl) ?_ hHeld ?_
  rotate_left
  · (intro w hSw; (try dsimp only at hSw); go_simp; try with_reducible rfl)
  simp only [Act.put, List.setIfInBounds_toArray, List.set_cons_zero, List.set_cons_succ]
  refine take_at (i := 3) 8 (v := ?_) rfl rfl (by kernel_rfl) (by kernel_rfl) (by kernel_rfl) (fun _ _ _ h => h) (by rfl) ?_ hHeld ?_
  rotate_left
  · (intro w hSw; (try dsimp only at hSw); go_simp; try with_reducible rfl)
  simp only [Act.put, List.setIfInBounds_toArray, List.set_cons_zero, List.set_cons_succ]
  refine take_at (i := 4) 9 (v := ?_) rfl rfl (by kernel_rfl) (by kernel_rfl) (by kernel_rfl) (fun _ _ _ h => h) (by rfl) ?_ hHeld ?_
  rotate_left
  · (intro w hSw; (try dsimp only at hSw); go_simp; try with_reducible rfl)
  simp only [Act.put, List.setIfInBounds_toArray, List.set_cons_zero, List.set_cons_succ]
  refine take_at (i := 5) 10 (v := ?_) rfl rfl (by kernel_rfl) (by kernel_rfl) (by kernel_rfl) (fun _ _ _ h => h) (by rfl) ?_ hHeld ?_
  rotate_left
  · (intro w hSw; (try dsimp only at hSw); go_simp; try with_reducible rfl)
  simp only [Act.put, List.setIfInBounds_toArray, List.set_cons_zero, List.set_cons_succ]
  refine take_at (i := 6) 11 (v := ?_) rfl rfl (by kernel_rfl) (by kernel_rfl) (by kernel_rfl) (fun _ _ _ h => h) (by rfl) ?_ hHeld ?_
  rotate_left
  · (intro w hSw; (try dsimp only at hSw); go_simp; try with_reducible rfl)
  simp only [Act.put, List.setIfInBounds_toArray, List.set_cons_zero, List.set_cons_succ]
  refine take_at (i := 7) 12 (v := ?_) rfl rfl (by kernel_rfl) (by kernel_rfl) (by kernel_rfl) (fun _ _ _ h => h) (by rfl) ?_ hHeld ?_
  rotate_left
  · (intro w hSw; (try dsimp only at hSw); go_simp; try with_reducible rfl)
  simp only [Act.put, List.setIfInBounds_toArray, List.set_cons_zero, List.set_cons_succ]
  refine take_at (i := 8) 13 (v := ?_) rfl rfl (by kernel_rfl) (by kernel_rfl) (by kernel_rfl) (fun _ _ _ h => h) (by rfl) ?_ hHeld ?_
  rotate_left
  · (intro w hSw; (try dsimp only at hSw); go_simp; try with_reducible rfl)
  simp only [Act.put, List.setIfInBounds_toArray, List.set_cons_zero, List.set_cons_succ]
  refine take_at (i := 9) 14 (v := ?_) rfl rfl (by kernel_rfl) (by kernel_rfl) (by kernel_rfl) (fun _ _ _ h => h) (by rfl) ?_ hHeld ?_
  rotate_left
  · (intro w hSw; (try dsimp only at hSw); go_simp; try with_reducible rfl)
  simp only [Act.put, List.setIfInBounds_toArray, List.set_cons_zero, List.set_cons_succ]
  refine take_at (i := 12) 17 (v := ?_) rfl rfl (by kernel_rfl) (by kernel_rfl) (by kernel_rfl) (fun _ _ _ h => h) (by rfl) ?_ hHeld ?_
  rotate_left
  · (intro w hSw; (try dsimp only at hSw); go_simp; try with_reducible rfl)
  simp only [Act.put, List.setIfInBounds_toArray, List.set_cons_zero, List.set_cons_succ]
  refine take_at (i := 13) 18 (v := ?_) rfl rfl (by kernel_rfl) (by kernel_rfl) (by kernel_rfl) (fun _ _ _ h => h) (by rfl) ?_ hHeld ?_
  rotate_left
  · (intro w hSw; (try dsimp only at hSw); go_simp; try with_reducible rfl)
  simp only [Act.put, List.setIfInBounds_toArray, List.set_cons_zero, List.set_cons_succ]
  refine run_at (i := 10) rfl (by kernel_rfl) (by rfl) (fun K hK => ?_)
  simp only [List.getElem_toArray, List.getElem_cons_zero, List.getElem_cons_succ]
  go_simp
  go_wp2_with fail
  refine hK.out _ _ (by first | exact hS0.drew | assumption | exact hS3 | exact hS2 | exact HSAL.out _) ?_
  clear hK K
  intro hHeld2
  clear hHeld
  have hHeld := hHeld2
  clear hHeld2
  try simp only [Act.put, List.setIfInBounds_toArray, List.set_cons_zero, List.set_cons_succ]
  refine run_at (i := 11) rfl (by kernel_rfl) (by rfl) (fun K hK => ?_)
  simp only [List.getElem_toArray, List.getElem_cons_zero, List.getElem_cons_succ]
  go_simp
  first | (go_at_call 32; refine Calls.mono (lay_t ao n cap xs HN.out.1 (w.heap.size + 1) 3 3 [P, I, C] rfl _ (HRX.out _ (HW.out _ (HSAL.out _))) HNL.out HNS.out HLT.out (by have := HN.out.2; omega) (by decide)) ?_; rintro e1 w2 ⟨a2, L2, c2, rfl, hL2, hr2, hn2, hb2⟩; have HL2 : Hid _ := hL2; have HR2 : Hid (Rd w2 a2 (xs ++ dgs [P, I, C])) := hr2; have HN2 : Hid (a2 = none → c2 = 0) := hn2; have hS2 : Below (w.heap.size + 1) (w.alloc (.cells #[.int .i64 k, .int .u64 e, .int .u64 s, .int .i64 (P : Nat), .int .i64 (I : Nat), .int .i64 (C : Nat), .slice da dn dc, .int .i64 cd, .slice ga gn gc] 26 (0, 0))) w2 := (HSAL.out _).trans (hb2.mono (by have h9 := (HSAL.out (.cells #[.int .u64 (P : Nat), .int .u64 (I : Nat), .int .u64 (C : Nat)] 22 (0, 0))).size; simp)); have HLB : Hid (L2 ≤ 1048676) := (by have h1 := dgs_len [P, I, C] HLT.out; have h2 := HL2.out; have h3 := HN.out; rw [List.length_append] at h2; simp only [List.length_cons, List.length_nil] at h1; unfold Hid; omega); clear hL2 hr2 hn2 hb2) | (go_at_call 106; refine Calls.mono (appendBytes_n a2 L2 c2 (xs ++ dgs [P, I, C]) HL2.out da dn dc ds HDN.out.1 w2 HR2.out (HRD.out _ (HW.out _ hS2)) HN2.out HDL.out (by have := HLB.out; have := HDN.out.2; omega)) ?_; rintro e1 w3 ⟨v3, rfl, hown3, hb3⟩; have HO3 : Hid (StrOut (xs ++ dgs [P, I, C] ++ (dg ds.length ++ ds)) w2 (.returned v3) w3) := StrOut.own hown3 hb3; have hS3 : Below (w.heap.size + 1) (w.alloc (.cells #[.int .i64 k, .int .u64 e, .int .u64 s, .int .i64 (P : Nat), .int .i64 (I : Nat), .int .i64 (C : Nat), .slice da dn dc, .int .i64 cd, .slice ga gn gc] 26 (0, 0))) w3 := hS2.trans (hb3.mono (by have h9 := hS2.size; simpa using h9)); have HW2 : Hid (Below w.heap.size w w2) := HW.out _ hS2; clear hown3 hb3)
  go_wp2_with fail
  refine hK.out _ _ (by first | exact hS0.drew | assumption | exact hS3 | exact hS2 | exact HSAL.out _) ?_
  clear hK K
  intro hHeld2
  clear hHeld
  have hHeld := hHeld2
  clear hHeld2
  try simp only [Act.put, List.setIfInBounds_toArray, List.set_cons_zero, List.set_cons_succ]
  refine run_at (i := 14) rfl (by kernel_rfl) (by rfl) (fun K hK => ?_)
  simp only [List.getElem_toArray, List.getElem_cons_zero, List.getElem_cons_succ]
  go_simp
  first | (go_at_call 32; refine Calls.mono (lay_t ao n cap xs HN.out.1 (w.heap.size + 1) 3 3 [P, I, C] rfl _ (HRX.out _ (HW.out _ (HSAL.out _))) HNL.out HNS.out HLT.out (by have := HN.out.2; omega) (by decide)) ?_; rintro e1 w2 ⟨a2, L2, c2, rfl, hL2, hr2, hn2, hb2⟩; have HL2 : Hid _ := hL2; have HR2 : Hid (Rd w2 a2 (xs ++ dgs [P, I, C])) := hr2; have HN2 : Hid (a2 = none → c2 = 0) := hn2; have hS2 : Below (w.heap.size + 1) (w.alloc (.cells #[.int .i64 k, .int .u64 e, .int .u64 s, .int .i64 (P : Nat), .int .i64 (I : Nat), .int .i64 (C : Nat), .slice da dn dc, .int .i64 cd, .slice ga gn gc] 26 (0, 0))) w2 := (HSAL.out _).trans (hb2.mono (by have h9 := (HSAL.out (.cells #[.int .u64 (P : Nat), .int .u64 (I : Nat), .int .u64 (C : Nat)] 22 (0, 0))).size; simp)); have HLB : Hid (L2 ≤ 1048676) := (by have h1 := dgs_len [P, I, C] HLT.out; have h2 := HL2.out; have h3 := HN.out; rw [List.length_append] at h2; simp only [List.length_cons, List.length_nil] at h1; unfold Hid; omega); clear hL2 hr2 hn2 hb2) | (go_at_call 106; refine Calls.mono (appendBytes_n a2 L2 c2 (xs ++ dgs [P, I, C]) HL2.out da dn dc ds HDN.out.1 w2 HR2.out (HRD.out _ (HW.out _ hS2)) HN2.out HDL.out (by have := HLB.out; have := HDN.out.2; omega)) ?_; rintro e1 w3 ⟨v3, rfl, hown3, hb3⟩; have HO3 : Hid (StrOut (xs ++ dgs [P, I, C] ++ (dg ds.length ++ ds)) w2 (.returned v3) w3) := StrOut.own hown3 hb3; have hS3 : Below (w.heap.size + 1) (w.alloc (.cells #[.int .i64 k, .int .u64 e, .int .u64 s, .int .i64 (P : Nat), .int .i64 (I : Nat), .int .i64 (C : Nat), .slice da dn dc, .int .i64 cd, .slice ga gn gc] 26 (0, 0))) w3 := hS2.trans (hb3.mono (by have h9 := hS2.size; simpa using h9)); have HW2 : Hid (Below w.heap.size w w2) := HW.out _ hS2; clear hown3 hb3)
  go_wp2_with fail
  refine hK.out _ _ (by first | exact hS0.drew | assumption | exact hS3 | exact hS2 | exact HSAL.out _) ?_
  clear hK K
  intro hHeld2
  clear hHeld
  have hHeld := hHeld2
  clear hHeld2
  try simp only [Act.put, List.setIfInBounds_toArray, List.set_cons_zero, List.set_cons_succ]
  refine take_at (i := 15) 4 (v := ?_) rfl rfl (by kernel_rfl) (by kernel_rfl) (by kernel_rfl) (fun _ _ _ h => h) (by rfl) ?_ hHeld ?_
  rotate_left
  · (intro w hSw; (try dsimp only at hSw); go_simp; try with_reducible rfl)
  simp only [Act.put, List.setIfInBounds_toArray, List.set_cons_zero, List.set_cons_succ]
  refine wpAnyH_done (by kernel_rfl) ?_ _
  refine NoPanic.normal ?_
  go_wp2
  go_ret
  exact StrOut.base HO3.out HW2.out
end
end Go.Proofs.YtjigbopkmffjaaaDoor
