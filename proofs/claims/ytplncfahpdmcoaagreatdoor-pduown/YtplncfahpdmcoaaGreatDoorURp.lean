import Derived.Test.YtplncfahpdmcoaaGreatDoorUK
import Derived.Test.YtplncfahpdmcoaaGreatDoorNum
import Derived.Test.YtplncfahpdmcoaaGreatDoorAppB
import Derived.Test.YtplncfahpdmcoaaGreatDoorSeal
namespace Go.Proofs.YtplncfahpdmcoaaGreatDoor
set_option linter.unusedVariables false
set_option linter.unusedSimpArgs false
open Go.RowKit
def RdN (w : World) (g : Nat) (ns : List Nat) : Prop := ∀ j (hj : j < ns.length), w.cell? ⟨g, j, none⟩ = some (.int .u64 (ns[j] : Nat))
theorem RdN.below {w w' : World} {g : Nat} {ns : List Nat} (h : RdN w g ns) (hb : Below w.heap.size w w') : RdN w' g ns := fun j hj => (hb.cell (p := ⟨g, j, none⟩) (World.block_lt_of_cell? w _ (h j hj))).trans (h j hj)
def dgs (ns : List Nat) : List UInt8 := ns.flatMap dg
theorem dgs_snoc (ns : List Nat) (k : Nat) (h : k < ns.length) : dgs (ns.take (k + 1)) = dgs (ns.take k) ++ dg ns[k] := by
  unfold dgs
  rw [List.take_succ_eq_append_getElem h, List.flatMap_append]
  simp
theorem dgs_len (ns : List Nat) (h : ∀ n ∈ ns, n < 18446744073709551616) : (dgs ns).length ≤ ns.length * 10 := by
  induction ns with
  | nil => simp [dgs]
  | cons x ns ih =>
    have h1 := ih (fun n hn => h n (by simp [hn]))
    have h2 := dg_len x (h x (by simp))
    unfold dgs at *
    rw [List.flatMap_cons, List.length_append, List.length_cons]
    omega
/-- a string of bytes came back -/
def StrOut (ys : List UInt8) (w : World) (e : Ending) (w' : World) : Prop := ∃ (a : Option Addr) (L c : Nat), e = .returned (.slice a L c) ∧ L = ys.length ∧ Rd w' a ys ∧ (a = none → c = 0) ∧ Below w.heap.size w w'
theorem StrOut.base {ys : List UInt8} {w0 w w' : World} {e : Ending} (h : StrOut ys w e w') (hb : Below w0.heap.size w0 w) : StrOut ys w0 e w' := by
  obtain ⟨a, L, c, h1, h2, h3, h4, h5⟩ := h
  exact ⟨a, L, c, h1, h2, h3, h4, below_next hb h5⟩
theorem StrOut.own {ys : List UInt8} {w w' : World} {v : Value} (h : Own w' w.heap.size v ys) (hb : Below w.heap.size w w') : StrOut ys w (.returned v) w' := by
  obtain ⟨a, c, hv, -, -, h3, hr, -⟩ := h.val
  exact ⟨a, _, c, by rw [hv], rfl, hr, h3, hb⟩
section
set_option maxRecDepth 20000
set_option maxHeartbeats 1600000
def LyRel (xs : List UInt8) (ns : List Nat) (m : Nat) (w : World) (ov j : Value) (wr : World) : Prop := ∃ (k : Nat) (a : Option Addr) (L c : Nat), k ≤ m ∧ j = .int .i64 (k : Int) ∧ ov = .slice a L c ∧ L = (xs ++ dgs (ns.take k)).length ∧ Rd wr a (xs ++ dgs (ns.take k)) ∧ (a = none → c = 0) ∧ Below w.heap.size w wr
theorem lay_t (ao : Option Addr) (n cap : Nat) (xs : List UInt8) (hn : n = xs.length) (g m mc : Nat) (ns : List Nat) (hm : m = ns.length) (w : World) (hx : Rd w ao xs) (hnil : ao = none → cap = 0) (hns : RdN w g ns) (hlt : ∀ n ∈ ns, n < 18446744073709551616) (hl : n ≤ 1099511627776) (hm2 : m ≤ 1000) :
    Calls Tryz.prog 25 #[.slice ao n cap, .slice (some ⟨g, 0, none⟩) m mc] w fun e w' => StrOut (xs ++ dgs ns) w e w' := by
  have HN : Hid (n = xs.length) := hn
  have HM : Hid (m = ns.length) := hm
  have HLT : Hid (∀ n ∈ ns, n < 18446744073709551616) := hlt
  have HS : Hid (LyRel xs ns m w (.slice ao n cap) (.int .i64 0) w) := ⟨0, ao, n, cap, Nat.zero_le _, rfl, rfl, by simp [dgs]; omega, by simpa [dgs] using hx, hnil, Below.refl _ _⟩
  clear hn hm hlt hx hnil
  go_enter Tryz.func25, Tryz.ntmps25
  go_wp2
  go_loopw [0, 9] (fun ov j wr => LyRel xs ns m w ov j wr) (fun _ j _ => m - (intOf j).toNat)
  case atStart => exact HS.out
  case round =>
    obtain ⟨k, a, L, c, hk, rfl, rfl, hL, hr, hnl, hbw⟩ := hrel
    have hkw : IntKind.i64.wrap ((k : Int) + 1) = ((k + 1 : Nat) : Int) := by rw [IntKind.wrap_i64]; omega
    have HLL : Hid (L = (xs ++ dgs (ns.take k)).length) := hL
    have HR : Hid (Rd wr a (xs ++ dgs (ns.take k))) := hr
    have HNL : Hid (a = none → c = 0) := hnl
    have HB : Hid (Below w.heap.size w wr) := hbw
    clear hL hr hnl HS
    by_cases hlt : k < m
    · have hk1 : k < ns.length := by rw [← HM.out]; exact hlt
      have hlti : (k : Int) < (m : Int) := by omega
      have hk0 : (0 : Int) ≤ (k : Int) := by omega
      have hc : wr.cell? ⟨g, k, none⟩ = some (.int .u64 (ns[k] : Nat)) := (hns.below hbw) k hk1
      have HD : Hid (dgs (ns.take (k + 1)) = dgs (ns.take k) ++ dg ns[k]) := dgs_snoc ns k hk1
      have HQ : Hid (ns[k] < 18446744073709551616) := HLT.out _ (List.getElem_mem hk1)
      have HLB : Hid (L + 10 ≤ 140737488355328) := by
        have h1 := dgs_len (ns.take k) (fun n hn => HLT.out n (List.mem_of_mem_take hn))
        have h2 := HLL.out
        have h3 := HN.out
        rw [List.length_append] at h2
        rw [List.length_take] at h1
        unfold Hid
        omega
      obtain ⟨q, hq⟩ : ∃ q : Nat, q = ns[k] := ⟨_, rfl⟩
      rw [← hq] at hc HD HQ
      clear hq hbw
      go_wp2_with (go_at_call 47; refine (appendNumber_n a L c (xs ++ dgs (ns.take k)) HLL.out q _ HR.out HNL.out HLB.out HQ.out).mono ?_; rintro e w1 ⟨v1, rfl, hown1, hb1⟩; obtain ⟨a1, c1, hv1, -, -, hn1, hr1, -⟩ := hown1.val; obtain ⟨L1, hL1⟩ : ∃ L : Nat, L = ((xs ++ dgs (ns.take k)) ++ dg q).length := ⟨_, rfl⟩; rw [← hL1] at hv1; subst hv1; have HL1 : Hid _ := hL1; clear hL1)
      go_roundw
      case rel => exact ⟨k + 1, a1, L1, c1, by omega, by go_num, rfl, by rw [HD.out, ← List.append_assoc]; exact HL1.out, by rw [HD.out, ← List.append_assoc]; exact hr1, hn1, below_next HB.out hb1⟩
      case measure => simp [intOf]; omega
    · have hlti : ¬ (k : Int) < (m : Int) := by omega
      have HT : Hid (ns.take k = ns) := List.take_of_length_le (by rw [← HM.out]; omega)
      rw [HT.out] at HLL HR
      clear hbw
      go_wp2
      go_ret
      exact ⟨a, L, c, rfl, HLL.out, HR.out, HNL.out, HB.out⟩
end
end Go.Proofs.YtplncfahpdmcoaaGreatDoor
namespace Go.Proofs.YtplncfahpdmcoaaGreatDoor
set_option linter.unusedVariables false
set_option linter.unusedSimpArgs false
open Go.RowKit
theorem rdn_lit (w : World) (C : Array Value) (t : TypeId) (ns : List Nat) (h : C.toList = ns.map fun n => Value.int .u64 (n : Nat)) : RdN (w.alloc (.cells C t (0, 0))) w.heap.size ns := fun j hj => by
  rw [cell_of_row _ _ _ _ _ _ (heap_alloc_new w _), ← Array.getElem?_toList, h]
  simp [hj]
section
set_option maxRecDepth 20000
set_option maxHeartbeats 3200000
theorem layCancel_t (ao : Option Addr) (n cap : Nat) (xs : List UInt8) (hn : n = xs.length) (k e s p i c : Int) (da : Option Addr) (dn dc : Nat) (cd : Int) (ga : Option Addr) (gn gc : Nat) (w : World) (hx : Rd w ao xs) (hnil : ao = none → cap = 0) :
    Calls Tryz.prog 71 #[.slice ao n cap, .agg #[.int .i64 k, .int .u64 e, .int .u64 s, .int .i64 p, .int .i64 i, .int .i64 c, .slice da dn dc, .int .i64 cd, .slice ga gn gc]] w fun e w' => StrOut xs w e w' := by
  have HN : Hid _ := hn
  have HX : Hid (Rd w ao xs) := hx
  have HNL : Hid _ := hnil
  clear hn hx hnil
  go_enter Tryz.func71, Tryz.ntmps71
  go_wp2
  go_ret
  exact ⟨ao, n, cap, rfl, HN.out, HX.out.alloc _, HNL.out, al (Below.refl _ _) _⟩
theorem layData_t (ao : Option Addr) (n cap : Nat) (xs : List UInt8) (hn : n = xs.length) (k e s : Int) (P I C : Nat) (da : Option Addr) (dn dc : Nat) (ds : List UInt8) (hdn : dn = ds.length) (cd : Int) (ga : Option Addr) (gn gc : Nat) (w : World) (hx : Rd w ao xs) (hnil : ao = none → cap = 0) (hd : Rd w da ds) (hdnil : da = none → dc = 0) (hl : n ≤ 1048576) (hP : P ≤ 64) (hI : I ≤ 64) (hC : C ≤ 64) (hdl : dn ≤ 1024) :
    Calls Tryz.prog 65 #[.slice ao n cap, .agg #[.int .i64 k, .int .u64 e, .int .u64 s, .int .i64 (P : Nat), .int .i64 (I : Nat), .int .i64 (C : Nat), .slice da dn dc, .int .i64 cd, .slice ga gn gc]] w fun e w' => StrOut (xs ++ dgs [P, I, C] ++ (dg ds.length ++ ds)) w e w' := by
  have HBX : Hid (∀ u, Below (w.heap.size + 1) (w.alloc (.cells #[.int .i64 k, .int .u64 e, .int .u64 s, .int .i64 (P : Nat), .int .i64 (I : Nat), .int .i64 (C : Nat), .slice da dn dc, .int .i64 cd, .slice ga gn gc] 26 (0, 0))) u → u.rangeAt w.heap.size 0 [.int .i64 k, .int .u64 e, .int .u64 s, .int .i64 (P : Nat), .int .i64 (I : Nat), .int .i64 (C : Nat), .slice da dn dc, .int .i64 cd, .slice ga gn gc]) := fun u hu => range_below (range_box w [.int .i64 k, .int .u64 e, .int .u64 s, .int .i64 (P : Nat), .int .i64 (I : Nat), .int .i64 (C : Nat), .slice da dn dc, .int .i64 cd, .slice ga gn gc] 26) (by rw [heap_alloc_size1']; exact hu)
  have hc3 : ∀ u, Below (w.heap.size + 1) (w.alloc (.cells #[.int .i64 k, .int .u64 e, .int .u64 s, .int .i64 (P : Nat), .int .i64 (I : Nat), .int .i64 (C : Nat), .slice da dn dc, .int .i64 cd, .slice ga gn gc] 26 (0, 0))) u → u.cell? ⟨w.heap.size, 3, none⟩ = some (.int .i64 (P : Nat)) := fun u hu => HBX.out u hu 3 _ rfl
  have hc4 : ∀ u, Below (w.heap.size + 1) (w.alloc (.cells #[.int .i64 k, .int .u64 e, .int .u64 s, .int .i64 (P : Nat), .int .i64 (I : Nat), .int .i64 (C : Nat), .slice da dn dc, .int .i64 cd, .slice ga gn gc] 26 (0, 0))) u → u.cell? ⟨w.heap.size, 4, none⟩ = some (.int .i64 (I : Nat)) := fun u hu => HBX.out u hu 4 _ rfl
  have hc5 : ∀ u, Below (w.heap.size + 1) (w.alloc (.cells #[.int .i64 k, .int .u64 e, .int .u64 s, .int .i64 (P : Nat), .int .i64 (I : Nat), .int .i64 (C : Nat), .slice da dn dc, .int .i64 cd, .slice ga gn gc] 26 (0, 0))) u → u.cell? ⟨w.heap.size, 5, none⟩ = some (.int .i64 (C : Nat)) := fun u hu => HBX.out u hu 5 _ rfl
  have hc6 : ∀ u, Below (w.heap.size + 1) (w.alloc (.cells #[.int .i64 k, .int .u64 e, .int .u64 s, .int .i64 (P : Nat), .int .i64 (I : Nat), .int .i64 (C : Nat), .slice da dn dc, .int .i64 cd, .slice ga gn gc] 26 (0, 0))) u → u.cell? ⟨w.heap.size, 6, none⟩ = some (.slice da dn dc) := fun u hu => HBX.out u hu 6 _ rfl
  have hwP : IntKind.u64.wrap (P : Int) = (P : Int) := by rw [IntKind.wrap_u64]; omega
  have hwI : IntKind.u64.wrap (I : Int) = (I : Int) := by rw [IntKind.wrap_u64]; omega
  have hwC : IntKind.u64.wrap (C : Int) = (C : Int) := by rw [IntKind.wrap_u64]; omega
  have HS0 : Hid (Below (w.heap.size + 1) (w.alloc (.cells #[.int .i64 k, .int .u64 e, .int .u64 s, .int .i64 (P : Nat), .int .i64 (I : Nat), .int .i64 (C : Nat), .slice da dn dc, .int .i64 cd, .slice ga gn gc] 26 (0, 0))) (w.alloc (.cells #[.int .i64 k, .int .u64 e, .int .u64 s, .int .i64 (P : Nat), .int .i64 (I : Nat), .int .i64 (C : Nat), .slice da dn dc, .int .i64 cd, .slice ga gn gc] 26 (0, 0)))) := Below.refl _ _
  have HW : Hid (∀ u, Below (w.heap.size + 1) (w.alloc (.cells #[.int .i64 k, .int .u64 e, .int .u64 s, .int .i64 (P : Nat), .int .i64 (I : Nat), .int .i64 (C : Nat), .slice da dn dc, .int .i64 cd, .slice ga gn gc] 26 (0, 0))) u → Below w.heap.size w u) := fun u hu => (al (Below.refl _ w) _).trans (hu.mono (by omega))
  have HRX : Hid (∀ u, Below w.heap.size w u → Rd u ao xs) := fun u hu => hx.below hu
  have HRD : Hid (∀ u, Below w.heap.size w u → Rd u da ds) := fun u hu => hd.below hu
  have HN : Hid (n = xs.length ∧ n ≤ 1048576) := ⟨hn, hl⟩
  have HNL : Hid (ao = none → cap = 0) := hnil
  have HDN : Hid (dn = ds.length ∧ dn ≤ 1024) := ⟨hdn, hdl⟩
  have HDL : Hid (da = none → dc = 0) := hdnil
  have HLT : Hid (∀ n ∈ [P, I, C], n < 18446744073709551616) := fun n hn => by simp at hn; omega
  clear hx hd hn hl hnil hdn hdl hdnil
  go_enter Tryz.func65, Tryz.ntmps65
  go_wp2_with fail
  have hS0 := HS0.out
  have hSal : ∀ o, Below (w.heap.size + 1) (w.alloc (.cells #[.int .i64 k, .int .u64 e, .int .u64 s, .int .i64 (P : Nat), .int .i64 (I : Nat), .int .i64 (C : Nat), .slice da dn dc, .int .i64 cd, .slice ga gn gc] 26 (0, 0))) ((w.alloc (.cells #[.int .i64 k, .int .u64 e, .int .u64 s, .int .i64 (P : Nat), .int .i64 (I : Nat), .int .i64 (C : Nat), .slice da dn dc, .int .i64 cd, .slice ga gn gc] 26 (0, 0))).drew.alloc o) := fun o => hS0.drew.alloc (by simp) o
  have HSAL : Hid _ := hSal
  clear hSal
  have HNS : Hid (RdN ((w.alloc (.cells #[.int .i64 k, .int .u64 e, .int .u64 s, .int .i64 (P : Nat), .int .i64 (I : Nat), .int .i64 (C : Nat), .slice da dn dc, .int .i64 cd, .slice ga gn gc] 26 (0, 0))).drew.alloc (.cells #[.int .u64 (P : Nat), .int .u64 (I : Nat), .int .u64 (C : Nat)] 22 (0, 0))) (w.heap.size + 1) [P, I, C]) := by
    have h9 := rdn_lit (w.alloc (.cells #[.int .i64 k, .int .u64 e, .int .u64 s, .int .i64 (P : Nat), .int .i64 (I : Nat), .int .i64 (C : Nat), .slice da dn dc, .int .i64 cd, .slice ga gn gc] 26 (0, 0))).drew #[.int .u64 (P : Nat), .int .u64 (I : Nat), .int .u64 (C : Nat)] 22 [P, I, C] rfl
    rw [show (w.alloc (.cells #[.int .i64 k, .int .u64 e, .int .u64 s, .int .i64 (P : Nat), .int .i64 (I : Nat), .int .i64 (C : Nat), .slice da dn dc, .int .i64 cd, .slice ga gn gc] 26 (0, 0))).drew.heap.size = w.heap.size + 1 from heap_alloc_size1' _ _] at h9
    exact h9
  refine wp_region_noPanic ?_
  refine wp_region_held_drew (S := (fun u => Below (w.heap.size + 1) (w.alloc (.cells #[.int .i64 k, .int .u64 e, .int .u64 s, .int .i64 (P : Nat), .int .i64 (I : Nat), .int .i64 (C : Nat), .slice da dn dc, .int .i64 cd, .slice ga gn gc] 26 (0, 0))) u)) (by kernel_rfl) (by first | exact hS0.drew | assumption | exact hS3 | exact hS2 | exact HSAL.out _) (fun hHeld => ?_)
  refine take_at (i := 0) 5 (v := ?_) rfl rfl (by kernel_rfl) (by kernel_rfl) (by kernel_rfl) (fun _ _ _ h => h) (by rfl) ?_ hHeld ?_
  rotate_left
  · (intro w hSw; (try dsimp only at hSw); go_simp; try with_reducible rfl)
  simp only [Act.put, List.setIfInBounds_toArray, List.set_cons_zero, List.set_cons_succ]
  refine take_at (i := 1) 6 (v := ?_) rfl rfl (by kernel_rfl) (by kernel_rfl) (by kernel_rfl) (fun _ _ _ h => h) (by rfl) ?_ hHeld ?_
  rotate_left
  · (intro w hSw; (try dsimp only at hSw); go_simp; try with_reducible rfl)
  simp only [Act.put, List.setIfInBounds_toArray, List.set_cons_zero, List.set_cons_succ]
  refine take_at (i := 2) 7 (v := ?_) rfl rfl (by kernel_rfl) (by kernel_rfl) (by kernel_rfl) (fun _ _ _ h => h) (by rfl) ?_ hHeld ?_
  rotate_left
  · (intro w hSw; (try dsimp only at hSw); go_simp; try with_reducible rfl)
  simp only [Act.put, List.setIfInBounds_toArray, List.set_cons_zero, List.set_cons_succ]
  refine take_at (i := 3) 8 (v := ?_) rfl rfl (by kernel_rfl) (by kernel_rfl) (by kernel_rfl) (fun _ _ _ h => h) (by rfl) ?_ hHeld ?_
  rotate_left
  · (intro w hSw; (try dsimp only at hSw); go_simp; try with_reducible rfl)
  simp only [Act.put, List.setIfInBounds_toArray, List.set_cons_zero, List.set_cons_succ]
  refine take_at (i := 4) 9 (v := ?_) rfl rfl (by kernel_rfl) (by kernel_rfl) (by kernel_rfl) (fun _ _ _ h => h) (by rfl) ?_ hHeld ?_
  rotate_left
  · (intro w hSw; (try dsimp only at hSw); go_simp; try with_reducible rfl)
  simp only [Act.put, List.setIfInBounds_toArray, List.set_cons_zero, List.set_cons_succ]
  refine take_at (i := 5) 10 (v := ?_) rfl rfl (by kernel_rfl) (by kernel_rfl) (by kernel_rfl) (fun _ _ _ h => h) (by rfl) ?_ hHeld ?_
  rotate_left
  · (intro w hSw; (try dsimp only at hSw); go_simp; try with_reducible rfl)
  simp only [Act.put, List.setIfInBounds_toArray, List.set_cons_zero, List.set_cons_succ]
  refine take_at (i := 6) 11 (v := ?_) rfl rfl (by kernel_rfl) (by kernel_rfl) (by kernel_rfl) (fun _ _ _ h => h) (by rfl) ?_ hHeld ?_
  rotate_left
  · (intro w hSw; (try dsimp only at hSw); go_simp; try with_reducible rfl)
  simp only [Act.put, List.setIfInBounds_toArray, List.set_cons_zero, List.set_cons_succ]
  refine take_at (i := 7) 12 (v := ?_) rfl rfl (by kernel_rfl) (by kernel_rfl) (by kernel_rfl) (fun _ _ _ h => h) (by rfl) ?_ hHeld ?_
  rotate_left
  · (intro w hSw; (try dsimp only at hSw); go_simp; try with_reducible rfl)
  simp only [Act.put, List.setIfInBounds_toArray, List.set_cons_zero, List.set_cons_succ]
  refine take_at (i := 8) 13 (v := ?_) rfl rfl (by kernel_rfl) (by kernel_rfl) (by kernel_rfl) (fun _ _ _ h => h) (by rfl) ?_ hHeld ?_
  rotate_left
  · (intro w hSw; (try dsimp only at hSw); go_simp; try with_reducible rfl)
  simp only [Act.put, List.setIfInBounds_toArray, List.set_cons_zero, List.set_cons_succ]
  refine take_at (i := 9) 14 (v := ?_) rfl rfl (by kernel_rfl) (by kernel_rfl) (by kernel_rfl) (fun _ _ _ h => h) (by rfl) ?_ hHeld ?_
  rotate_left
  · (intro w hSw; (try dsimp only at hSw); go_simp; try with_reducible rfl)
  simp only [Act.put, List.setIfInBounds_toArray, List.set_cons_zero, List.set_cons_succ]
  refine take_at (i := 12) 17 (v := ?_) rfl rfl (by kernel_rfl) (by kernel_rfl) (by kernel_rfl) (fun _ _ _ h => h) (by rfl) ?_ hHeld ?_
  rotate_left
  · (intro w hSw; (try dsimp only at hSw); go_simp; try with_reducible rfl)
  simp only [Act.put, List.setIfInBounds_toArray, List.set_cons_zero, List.set_cons_succ]
  refine take_at (i := 13) 18 (v := ?_) rfl rfl (by kernel_rfl) (by kernel_rfl) (by kernel_rfl) (fun _ _ _ h => h) (by rfl) ?_ hHeld ?_
  rotate_left
  · (intro w hSw; (try dsimp only at hSw); go_simp; try with_reducible rfl)
  simp only [Act.put, List.setIfInBounds_toArray, List.set_cons_zero, List.set_cons_succ]
  refine run_at (i := 10) rfl (by kernel_rfl) (by rfl) (fun K hK => ?_)
  simp only [List.getElem_toArray, List.getElem_cons_zero, List.getElem_cons_succ]
  go_simp
  go_wp2_with fail
  refine hK.out _ _ (by first | exact hS0.drew | assumption | exact hS3 | exact hS2 | exact HSAL.out _) ?_
  clear hK K
  intro hHeld2
  clear hHeld
  have hHeld := hHeld2
  clear hHeld2
  try simp only [Act.put, List.setIfInBounds_toArray, List.set_cons_zero, List.set_cons_succ]
  refine run_at (i := 11) rfl (by kernel_rfl) (by rfl) (fun K hK => ?_)
  simp only [List.getElem_toArray, List.getElem_cons_zero, List.getElem_cons_succ]
  go_simp
  first | (go_at_call 25; refine Calls.mono (lay_t ao n cap xs HN.out.1 (w.heap.size + 1) 3 3 [P, I, C] rfl _ (HRX.out _ (HW.out _ (HSAL.out _))) HNL.out HNS.out HLT.out (by have := HN.out.2; omega) (by decide)) ?_; rintro e1 w2 ⟨a2, L2, c2, rfl, hL2, hr2, hn2, hb2⟩; have HL2 : Hid _ := hL2; have HR2 : Hid (Rd w2 a2 (xs ++ dgs [P, I, C])) := hr2; have HN2 : Hid (a2 = none → c2 = 0) := hn2; have hS2 : Below (w.heap.size + 1) (w.alloc (.cells #[.int .i64 k, .int .u64 e, .int .u64 s, .int .i64 (P : Nat), .int .i64 (I : Nat), .int .i64 (C : Nat), .slice da dn dc, .int .i64 cd, .slice ga gn gc] 26 (0, 0))) w2 := (HSAL.out _).trans (hb2.mono (by have h9 := (HSAL.out (.cells #[.int .u64 (P : Nat), .int .u64 (I : Nat), .int .u64 (C : Nat)] 22 (0, 0))).size; simp)); have HLB : Hid (L2 ≤ 1048676) := (by have h1 := dgs_len [P, I, C] HLT.out; have h2 := HL2.out; have h3 := HN.out; rw [List.length_append] at h2; simp only [List.length_cons, List.length_nil] at h1; unfold Hid; omega); clear hL2 hr2 hn2 hb2) | (go_at_call 93; refine Calls.mono (appendBytes_n a2 L2 c2 (xs ++ dgs [P, I, C]) HL2.out da dn dc ds HDN.out.1 w2 HR2.out (HRD.out _ (HW.out _ hS2)) HN2.out HDL.out (by have := HLB.out; have := HDN.out.2; omega)) ?_; rintro e1 w3 ⟨v3, rfl, hown3, hb3⟩; have HO3 : Hid (StrOut (xs ++ dgs [P, I, C] ++ (dg ds.length ++ ds)) w2 (.returned v3) w3) := StrOut.own hown3 hb3; have hS3 : Below (w.heap.size + 1) (w.alloc (.cells #[.int .i64 k, .int .u64 e, .int .u64 s, .int .i64 (P : Nat), .int .i64 (I : Nat), .int .i64 (C : Nat), .slice da dn dc, .int .i64 cd, .slice ga gn gc] 26 (0, 0))) w3 := hS2.trans (hb3.mono (by have h9 := hS2.size; simpa using h9)); have HW2 : Hid (Below w.heap.size w w2) := HW.out _ hS2; clear hown3 hb3)
  go_wp2_with fail
  refine hK.out _ _ (by first | exact hS0.drew | assumption | exact hS3 | exact hS2 | exact HSAL.out _) ?_
  clear hK K
  intro hHeld2
  clear hHeld
  have hHeld := hHeld2
  clear hHeld2
  try simp only [Act.put, List.setIfInBounds_toArray, List.set_cons_zero, List.set_cons_succ]
  refine run_at (i := 14) rfl (by kernel_rfl) (by rfl) (fun K hK => ?_)
  simp only [List.getElem_toArray, List.getElem_cons_zero, List.getElem_cons_succ]
  go_simp
  first | (go_at_call 25; refine Calls.mono (lay_t ao n cap xs HN.out.1 (w.heap.size + 1) 3 3 [P, I, C] rfl _ (HRX.out _ (HW.out _ (HSAL.out _))) HNL.out HNS.out HLT.out (by have := HN.out.2; omega) (by decide)) ?_; rintro e1 w2 ⟨a2, L2, c2, rfl, hL2, hr2, hn2, hb2⟩; have HL2 : Hid _ := hL2; have HR2 : Hid (Rd w2 a2 (xs ++ dgs [P, I, C])) := hr2; have HN2 : Hid (a2 = none → c2 = 0) := hn2; have hS2 : Below (w.heap.size + 1) (w.alloc (.cells #[.int .i64 k, .int .u64 e, .int .u64 s, .int .i64 (P : Nat), .int .i64 (I : Nat), .int .i64 (C : Nat), .slice da dn dc, .int .i64 cd, .slice ga gn gc] 26 (0, 0))) w2 := (HSAL.out _).trans (hb2.mono (by have h9 := (HSAL.out (.cells #[.int .u64 (P : Nat), .int .u64 (I : Nat), .int .u64 (C : Nat)] 22 (0, 0))).size; simp)); have HLB : Hid (L2 ≤ 1048676) := (by have h1 := dgs_len [P, I, C] HLT.out; have h2 := HL2.out; have h3 := HN.out; rw [List.length_append] at h2; simp only [List.length_cons, List.length_nil] at h1; unfold Hid; omega); clear hL2 hr2 hn2 hb2) | (go_at_call 93; refine Calls.mono (appendBytes_n a2 L2 c2 (xs ++ dgs [P, I, C]) HL2.out da dn dc ds HDN.out.1 w2 HR2.out (HRD.out _ (HW.out _ hS2)) HN2.out HDL.out (by have := HLB.out; have := HDN.out.2; omega)) ?_; rintro e1 w3 ⟨v3, rfl, hown3, hb3⟩; have HO3 : Hid (StrOut (xs ++ dgs [P, I, C] ++ (dg ds.length ++ ds)) w2 (.returned v3) w3) := StrOut.own hown3 hb3; have hS3 : Below (w.heap.size + 1) (w.alloc (.cells #[.int .i64 k, .int .u64 e, .int .u64 s, .int .i64 (P : Nat), .int .i64 (I : Nat), .int .i64 (C : Nat), .slice da dn dc, .int .i64 cd, .slice ga gn gc] 26 (0, 0))) w3 := hS2.trans (hb3.mono (by have h9 := hS2.size; simpa using h9)); have HW2 : Hid (Below w.heap.size w w2) := HW.out _ hS2; clear hown3 hb3)
  go_wp2_with fail
  refine hK.out _ _ (by first | exact hS0.drew | assumption | exact hS3 | exact hS2 | exact HSAL.out _) ?_
  clear hK K
  intro hHeld2
  clear hHeld
  have hHeld := hHeld2
  clear hHeld2
  try simp only [Act.put, List.setIfInBounds_toArray, List.set_cons_zero, List.set_cons_succ]
  refine take_at (i := 15) 4 (v := ?_) rfl rfl (by kernel_rfl) (by kernel_rfl) (by kernel_rfl) (fun _ _ _ h => h) (by rfl) ?_ hHeld ?_
  rotate_left
  · (intro w hSw; (try dsimp only at hSw); go_simp; try with_reducible rfl)
  simp only [Act.put, List.setIfInBounds_toArray, List.set_cons_zero, List.set_cons_succ]
  refine wpAnyH_done (by kernel_rfl) ?_ _
  refine NoPanic.normal ?_
  go_wp2
  go_ret
  exact StrOut.base HO3.out HW2.out
end
end Go.Proofs.YtplncfahpdmcoaaGreatDoor
namespace Go.Proofs.YtplncfahpdmcoaaGreatDoor
set_option linter.unusedVariables false
set_option linter.unusedSimpArgs false
open Go.RowKit
def gotBF : Int → List Rg → List UInt8
  | _, [] => []
  | e, x :: l => dgs [(x.1 - e).toNat, (x.2 - x.1).toNat] ++ gotBF x.2 l
def gotB (l : List Rg) : List UInt8 := gotBF 0 l
theorem gotBF_snoc : ∀ (l : List Rg) (e : Int) (x : Rg), gotBF e (l ++ [x]) = gotBF e l ++ dgs [(x.1 - (match l.getLast? with | none => e | some y => y.2)).toNat, (x.2 - x.1).toNat]
  | [], e, x => by simp [gotBF]
  | y :: l, e, x => by
    have h := gotBF_snoc l y.2 x
    show _ ++ gotBF y.2 (l ++ [x]) = (_ ++ gotBF y.2 l) ++ _
    rw [h, List.append_assoc]
    rcases List.eq_nil_or_concat l with h0 | ⟨q, z, h0⟩
    · subst h0
      simp
    · rw [List.concat_eq_append] at h0
      subst h0
      have e1 : (q ++ [z]).getLast? = some z := by simp
      have e2 : (y :: (q ++ [z])).getLast? = some z := by rw [List.getLast?_cons, e1]; rfl
      rw [e1, e2]
theorem gotB_snoc (l : List Rg) (x : Rg) : gotB (l ++ [x]) = gotB l ++ dgs [(x.1 - endR l).toNat, (x.2 - x.1).toNat] := gotBF_snoc l 0 x
theorem gotBF_len : ∀ (l : List Rg) (e : Int), 0 ≤ e → (gotF (e + 1) l ∨ gotF e l) → (gotBF e l).length ≤ l.length * 20
  | [], e, _, _ => by simp [gotBF]
  | x :: l, e, h0, h => by
    have hx : e ≤ x.1 ∧ x.1 < x.2 ∧ x.2 ≤ 64 := by rcases h with h | h <;> (have := h.1; omega)
    have hr : gotF (x.2 + 1) l := by rcases h with h | h <;> exact h.2
    have h1 := gotBF_len l x.2 (by omega) (.inl hr)
    have h2 := dgs_len [(x.1 - e).toNat, (x.2 - x.1).toNat] (fun n hn => by simp at hn; omega)
    simp only [gotBF, List.length_append, List.length_cons, List.length_nil] at h2 ⊢
    omega
theorem gotF_cnt : ∀ (l : List Rg) (f : Int), gotF f l → l = [] ∨ f + 2 * (l.length : Int) ≤ 66
  | [], _, _ => .inl rfl
  | x :: l, f, h => by
    have h1 := h.1
    right
    rcases gotF_cnt l (x.2 + 1) h.2 with h2 | h2
    · subst h2; simp; omega
    · simp only [List.length_cons]; omega
theorem gotOk_cnt {l : List Rg} (h : gotOk l) : l.length ≤ 33 := by
  rcases gotF_cnt l 0 h with h1 | h1
  · subst h1; simp
  · omega
theorem gotB_len {l : List Rg} (h : gotOk l) : (gotB l).length ≤ 660 := by
  have h1 := gotBF_len l 0 (Int.le_refl _) (.inr h)
  have h2 := gotOk_cnt h
  unfold gotB
  omega
section
set_option maxRecDepth 20000
set_option maxHeartbeats 6400000
def RpRel (xs : List UInt8) (l : List Rg) (gn B : Nat) (W : World) (ov j : Value) (wr : World) : Prop := ∃ (k : Nat) (a : Option Addr) (L c : Nat), k ≤ gn ∧ j = .int .i64 (k : Int) ∧ ov = .slice a L c ∧ L = (xs ++ gotB (l.take k)).length ∧ Rd wr a (xs ++ gotB (l.take k)) ∧ (a = none → c = 0) ∧ Below B W wr
theorem layReport_t (ao : Option Addr) (n cap : Nat) (xs : List UInt8) (hn : n = xs.length) (k e s p i c : Int) (da : Option Addr) (dn dc CD : Nat) (ga : Option Addr) (gn gc : Nat) (l : List Rg) (hgn : gn = l.length) (w : World) (hx : Rd w ao xs) (hnil : ao = none → cap = 0) (hg : RdR w ga l) (hgc : gn ≤ gc) (hok : gotOk l) (hl : n ≤ 1048576) (hCD : CD ≤ 7) :
    Calls Tryz.prog 68 #[.slice ao n cap, .agg #[.int .i64 k, .int .u64 e, .int .u64 s, .int .i64 p, .int .i64 i, .int .i64 c, .slice da dn dc, .int .i64 (CD : Nat), .slice ga gn gc]] w fun e w' => StrOut (if CD = 0 then xs ++ dgs [CD] ++ dgs [gn] ++ gotB l else xs ++ dgs [CD]) w e w' := by
  have hc7 : ∀ u, Below (w.heap.size + 1) (w.alloc (.cells #[.int .i64 k, .int .u64 e, .int .u64 s, .int .i64 p, .int .i64 i, .int .i64 c, .slice da dn dc, .int .i64 (CD : Nat), .slice ga gn gc] 26 (0, 0))) u → u.cell? ⟨w.heap.size, 7, none⟩ = some (.int .i64 (CD : Nat)) := fun u hu => (range_below (range_box w [.int .i64 k, .int .u64 e, .int .u64 s, .int .i64 p, .int .i64 i, .int .i64 c, .slice da dn dc, .int .i64 (CD : Nat), .slice ga gn gc] 26) (by rw [heap_alloc_size1']; exact hu)) 7 _ rfl
  have hc8 : ∀ u, Below (w.heap.size + 1) (w.alloc (.cells #[.int .i64 k, .int .u64 e, .int .u64 s, .int .i64 p, .int .i64 i, .int .i64 c, .slice da dn dc, .int .i64 (CD : Nat), .slice ga gn gc] 26 (0, 0))) u → u.cell? ⟨w.heap.size, 8, none⟩ = some (.slice ga gn gc) := fun u hu => (range_below (range_box w [.int .i64 k, .int .u64 e, .int .u64 s, .int .i64 p, .int .i64 i, .int .i64 c, .slice da dn dc, .int .i64 (CD : Nat), .slice ga gn gc] 26) (by rw [heap_alloc_size1']; exact hu)) 8 _ rfl
  have HC7 : Hid _ := hc7
  have HC8 : Hid _ := hc8
  have hwC : IntKind.u64.wrap (CD : Int) = (CD : Int) := by rw [IntKind.wrap_u64]; omega
  have HS0 : Hid (Below (w.heap.size + 1) (w.alloc (.cells #[.int .i64 k, .int .u64 e, .int .u64 s, .int .i64 p, .int .i64 i, .int .i64 c, .slice da dn dc, .int .i64 (CD : Nat), .slice ga gn gc] 26 (0, 0))) (w.alloc (.cells #[.int .i64 k, .int .u64 e, .int .u64 s, .int .i64 p, .int .i64 i, .int .i64 c, .slice da dn dc, .int .i64 (CD : Nat), .slice ga gn gc] 26 (0, 0)))) := Below.refl _ _
  have HW : Hid (∀ u, Below (w.heap.size + 1) (w.alloc (.cells #[.int .i64 k, .int .u64 e, .int .u64 s, .int .i64 p, .int .i64 i, .int .i64 c, .slice da dn dc, .int .i64 (CD : Nat), .slice ga gn gc] 26 (0, 0))) u → Below w.heap.size w u) := fun u hu => (al (Below.refl _ w) _).trans (hu.mono (by omega))
  have HRX : Hid (∀ u, Below w.heap.size w u → Rd u ao xs) := fun u hu => hx.below hu
  have HRG : Hid (∀ u, Below w.heap.size w u → RdR u ga l) := fun u hu => hg.below hu
  have HN : Hid (n = xs.length ∧ n ≤ 1048576) := ⟨hn, hl⟩
  have HNL : Hid (ao = none → cap = 0) := hnil
  have HOK : Hid (gotOk l) := hok
  have HGN : Hid (gn = l.length ∧ gn ≤ gc ∧ gn ≤ 33) := ⟨hgn, hgc, by have := gotOk_cnt hok; omega⟩
  have HNC : Hid (∀ (u : World), RdN (u.alloc (.cells #[.int .u64 (CD : Nat)] 22 (0, 0))) u.heap.size [CD]) := fun u => rdn_lit u _ _ _ rfl
  have HNG : Hid (∀ (u : World), RdN (u.alloc (.cells #[.int .u64 (gn : Nat)] 22 (0, 0))) u.heap.size [gn]) := fun u => rdn_lit u _ _ _ rfl
  have HL1 : Hid (∀ n ∈ [CD], n < 18446744073709551616) := fun n hn => by simp at hn; omega
  clear hx hg hn hl hnil hgn hok hc7 hc8
  by_cases h0 : CD = 0
  · rw [if_pos h0]
    have h0b : ((CD : Int) == 0) = true := by simpa using h0
    have h0n : ((CD : Int) != 0) = false := by simpa using h0
    clear h0
    go_enter Tryz.func68, Tryz.ntmps68
    go_wp2_with fail
    refine Calls.mono (lay_t ao n cap xs HN.out.1 _ 1 1 [CD] rfl _ (HRX.out _ (al (al (Below.refl _ _) _) _)) HNL.out (by first | exact HNC.out _ | (have h9 := HNC.out (w.alloc (.cells #[.int .i64 k, .int .u64 e, .int .u64 s, .int .i64 p, .int .i64 i, .int .i64 c, .slice da dn dc, .int .i64 (CD : Nat), .slice ga gn gc] 26 (0, 0))); rw [heap_alloc_size1'] at h9; exact h9)) HL1.out (by have := HN.out.2; omega) (by decide)) ?_
    rintro e1 w2 ⟨a2, L2, c2, rfl, hL2, hr2, hn2, hb2⟩
    have HL2 : Hid (L2 = (xs ++ dgs [CD]).length) := hL2
    have HS2 : Hid (Below (w.heap.size + 1) (w.alloc (.cells #[.int .i64 k, .int .u64 e, .int .u64 s, .int .i64 p, .int .i64 i, .int .i64 c, .slice da dn dc, .int .i64 (CD : Nat), .slice ga gn gc] 26 (0, 0))) w2) := (HS0.out.alloc (by simp) _).trans (hb2.mono (by simp))
    have HR2 : Hid (Rd w2 a2 (xs ++ dgs [CD])) := hr2
    have HN2 : Hid (a2 = none → c2 = 0) := hn2
    have hx72 := HC7.out _ HS2.out
    have hx82 := HC8.out _ HS2.out
    have hwG : IntKind.u64.wrap (gn : Int) = (gn : Int) := by rw [IntKind.wrap_u64]; have := HGN.out; omega
    have HLB2 : Hid (L2 ≤ 1048600) := by
      have h1 := dgs_len [CD] HL1.out
      have h2 := HL2.out
      have h3 := HN.out
      rw [List.length_append] at h2
      simp only [List.length_cons, List.length_nil] at h1
      unfold Hid
      omega
    clear hL2 hr2 hn2 hb2
    go_wp2_with fail
    refine Calls.mono (lay_t a2 L2 c2 (xs ++ dgs [CD]) HL2.out _ 1 1 [gn] rfl _ (Rd.alloc HR2.out _) HN2.out (HNG.out _) (fun n hn => by simp at hn; have := HGN.out; omega) (by have := HLB2.out; omega) (by decide)) ?_
    rintro e1 w3 ⟨a3, L3, c3, rfl, hL3, hr3, hn3, hb3⟩
    have HS3 : Hid (Below (w.heap.size + 1) (w.alloc (.cells #[.int .i64 k, .int .u64 e, .int .u64 s, .int .i64 p, .int .i64 i, .int .i64 c, .slice da dn dc, .int .i64 (CD : Nat), .slice ga gn gc] 26 (0, 0))) w3) := (HS2.out.alloc (by have := HS2.out.size; simpa using this) _).trans (hb3.mono (by have := HS2.out.size; simp at this ⊢; omega))
    have HLB3 : Hid ((xs ++ dgs [CD] ++ dgs [gn]).length ≤ 1048700) := by
      have h1 := dgs_len [gn] (fun n hn => by simp at hn; have := HGN.out; omega)
      have h2 := HL2.out
      have h3 := HLB2.out
      simp only [List.length_append, List.length_cons, List.length_nil] at h1 h2 ⊢
      unfold Hid
      omega
    obtain ⟨zs, hzs⟩ : ∃ zs : List UInt8, zs = xs ++ dgs [CD] ++ dgs [gn] := ⟨_, rfl⟩
    rw [← hzs] at hL3 hr3 HLB3
    have HZS : Hid (zs = xs ++ dgs [CD] ++ dgs [gn]) := hzs
    have HST : Hid (RpRel zs l gn (w.heap.size + 1) (w.alloc (.cells #[.int .i64 k, .int .u64 e, .int .u64 s, .int .i64 p, .int .i64 i, .int .i64 c, .slice da dn dc, .int .i64 (CD : Nat), .slice ga gn gc] 26 (0, 0))) (.slice a3 L3 c3) (.int .i64 0) w3) := ⟨0, a3, L3, c3, Nat.zero_le _, rfl, rfl, by rw [hL3]; simp [gotB, gotBF], by simpa [gotB, gotBF] using hr3, hn3, HS3.out⟩
    have hx83 := HC8.out _ HS3.out
    clear hL3 hr3 hn3 hb3 hzs HLB2 HN2 HR2 HL2 hx72 hx82
    go_wp2_with fail
    go_loopw [0, 27] (fun ov j wr => RpRel zs l gn (w.heap.size + 1) (w.alloc (.cells #[.int .i64 k, .int .u64 e, .int .u64 s, .int .i64 p, .int .i64 i, .int .i64 c, .slice da dn dc, .int .i64 (CD : Nat), .slice ga gn gc] 26 (0, 0))) ov j wr) (fun _ j _ => gn - (intOf j).toNat)
    case atStart => exact HST.out
    case round =>
      clear hx83 HST
      obtain ⟨kk, a, L, cc, hk, rfl, rfl, hL, hr, hnl, hbw⟩ := hrel
      have hkw : IntKind.i64.wrap ((kk : Int) + 1) = ((kk + 1 : Nat) : Int) := by rw [IntKind.wrap_i64]; have := HGN.out; omega
      have HLL : Hid (L = (zs ++ gotB (l.take kk)).length) := hL
      have HR : Hid (Rd wr a (zs ++ gotB (l.take kk))) := hr
      have HNLL : Hid (a = none → cc = 0) := hnl
      have HB : Hid (Below (w.heap.size + 1) (w.alloc (.cells #[.int .i64 k, .int .u64 e, .int .u64 s, .int .i64 p, .int .i64 i, .int .i64 c, .slice da dn dc, .int .i64 (CD : Nat), .slice ga gn gc] 26 (0, 0))) wr) := hbw
      have hswr : w.heap.size + 1 ≤ wr.heap.size := by have := hbw.size; simpa using this
      clear hL hr hnl
      by_cases hlt : kk < gn
      · have hk1 : kk < l.length := by have := HGN.out; omega
        have hlti : (kk : Int) < (gn : Int) := by omega
        have hk0 : (0 : Int) ≤ (kk : Int) := by omega
        have hkc : (kk : Int) ≤ (gc : Int) := by have := HGN.out; omega
        have hkca : ¬ gc = kk := by have := HGN.out; omega
        have hxr := HRG.out _ (HW.out _ hbw)
        obtain ⟨bb, oo, rfl, -, -⟩ := hxr kk hk1
        have HRX2 : Hid _ := hxr.range kk hk1
        obtain ⟨x, hx9⟩ : ∃ x : Rg, x = l[kk] := ⟨_, rfl⟩
        rw [← hx9] at HRX2
        have HTK : Hid (l.take (kk + 1) = l.take kk ++ [x]) := by unfold Hid; rw [List.take_succ_eq_append_getElem hk1, hx9]
        have HO2 : Hid (gotOk (l.take kk) ∧ freeR (l.take kk) ≤ x.1 ∧ x.1 < x.2 ∧ x.2 ≤ 64) := by
          have h := HOK.out
          rw [← List.take_append_drop (kk + 1) l, HTK.out] at h
          exact (gotOk_snoc _ _).1 (gotOk_pre h)
        obtain ⟨a1, a2⟩ := x
        have HEN : Hid (0 ≤ endR (l.take kk) ∧ endR (l.take kk) ≤ a1 ∧ a1 < a2 ∧ a2 ≤ 64) := by
          have h := HO2.out
          have h2 := gotOk_end h.1
          refine ⟨h2.1, ?_, h.2.2.1, h.2.2.2⟩
          by_cases h9 : 0 < (l.take kk).length
          · have h8 := freeR_eq h9; have h7 := h.2.1; simp only at h7; omega
          · have h8 : l.take kk = [] := List.eq_nil_of_length_eq_zero (by omega)
            rw [h8] at h ⊢
            have h7 := h.2.1
            rw [freeR_nil] at h7
            rw [endR_nil]
            exact h7
        have HTL : Hid (kk = (l.take kk).length) := by unfold Hid; rw [List.length_take]; omega
        have HGB : Hid (gotB (l.take (kk + 1)) = gotB (l.take kk) ++ dgs [(a1 - endR (l.take kk)).toNat, (a2 - a1).toNat]) := by unfold Hid; rw [HTK.out, gotB_snoc]
        obtain ⟨E, hE⟩ : ∃ E : Int, E = endR (l.take kk) := ⟨_, rfl⟩
        have HPE : Hid (∀ u, Below w.heap.size w u → Calls Tryz.prog 98 #[.slice (some ⟨bb, oo, none⟩) kk gc] u fun e w' => e = .returned (.int .i64 E) ∧ w' = u) := fun u hu => by rw [hE]; exact pend_t (some ⟨bb, oo, none⟩) kk gc (l.take kk) u HTL.out ((HRG.out u hu).take kk) (by have := HGN.out; omega)
        rw [← hE] at HEN HGB
        obtain ⟨d1, hd1⟩ : ∃ d : Nat, d = (a1 - E).toNat := ⟨_, rfl⟩
        obtain ⟨d2, hd2⟩ : ∃ d : Nat, d = (a2 - a1).toNat := ⟨_, rfl⟩
        rw [← hd1, ← hd2] at HGB
        have hw1 : IntKind.i64.wrap (a1 - E) = (d1 : Int) := by rw [IntKind.wrap_i64]; have := HEN.out; omega
        have hw2 : IntKind.i64.wrap (a2 - a1) = (d2 : Int) := by rw [IntKind.wrap_i64]; have := HEN.out; omega
        have HDB : Hid (d1 ≤ 64 ∧ d2 ≤ 64) := by have := HEN.out; unfold Hid; omega
        have hu1 : IntKind.u64.wrap (d1 : Int) = (d1 : Int) := by rw [IntKind.wrap_u64]; have := HDB.out; omega
        have hu2 : IntKind.u64.wrap (d2 : Int) = (d2 : Int) := by rw [IntKind.wrap_u64]; have := HDB.out; omega
        have HLB : Hid (L ≤ 1049500) := by
          have h1 := gotB_len HO2.out.1
          have h2 := HLL.out
          have h3 := HLB3.out
          rw [List.length_append] at h2
          unfold Hid
          omega
        have hz := (zero_of_info info_rg).1
        have hSX : Below (w.heap.size + 1) (w.alloc (.cells #[.int .i64 k, .int .u64 e, .int .u64 s, .int .i64 p, .int .i64 i, .int .i64 c, .slice da dn dc, .int .i64 (CD : Nat), .slice (some ⟨bb, oo, none⟩) gn gc] 26 (0, 0))) (wr.alloc (.cells #[.int .i64 a1, .int .i64 a2] 43 (0, 0))) := hbw.alloc (by have := hbw.size; simpa using this) _
        have hxc : ∀ u, Below (wr.heap.size + 1) (wr.alloc (.cells #[.int .i64 a1, .int .i64 a2] 43 (0, 0))) u → u.cell? ⟨wr.heap.size, 0, none⟩ = some (.int .i64 a1) ∧ u.cell? ⟨wr.heap.size, 1, none⟩ = some (.int .i64 a2) ∧ u.cell? ⟨w.heap.size, 8, none⟩ = some (.slice (some ⟨bb, oo, none⟩) gn gc) := fun u hu => by
          have h9 := ((rd_lit1 wr (a1, a2)).below (by rw [heap_alloc_size1']; exact hu)).range 0 (Nat.zero_lt_succ _)
          exact ⟨h9 0 _ rfl, h9 1 _ rfl, HC8.out u (hSX.trans (hu.mono (by omega)))⟩
        have hx0 : ∀ u, Below (wr.heap.size + 1) (wr.alloc (.cells #[.int .i64 a1, .int .i64 a2] 43 (0, 0))) u → u.cell? ⟨wr.heap.size, 0, none⟩ = some (.int .i64 a1) := fun u hu => (hxc u hu).1
        have hx1 : ∀ u, Below (wr.heap.size + 1) (wr.alloc (.cells #[.int .i64 a1, .int .i64 a2] 43 (0, 0))) u → u.cell? ⟨wr.heap.size, 1, none⟩ = some (.int .i64 a2) := fun u hu => (hxc u hu).2.1
        have hx8 : ∀ u, Below (wr.heap.size + 1) (wr.alloc (.cells #[.int .i64 a1, .int .i64 a2] 43 (0, 0))) u → u.cell? ⟨w.heap.size, 8, none⟩ = some (.slice (some ⟨bb, oo, none⟩) gn gc) := fun u hu => (hxc u hu).2.2
        have HSX : Hid (Below (w.heap.size + 1) (w.alloc (.cells #[.int .i64 k, .int .u64 e, .int .u64 s, .int .i64 p, .int .i64 i, .int .i64 c, .slice da dn dc, .int .i64 (CD : Nat), .slice (some ⟨bb, oo, none⟩) gn gc] 26 (0, 0))) (wr.alloc (.cells #[.int .i64 a1, .int .i64 a2] 43 (0, 0)))) := hSX
        clear hx9 hxr hbw hxc hE hd1 hd2 hSX
        go_wp2_with (refine wpList_load_mid rfl 43 _ rfl bb (oo + kk * 2) (by rfl) [.int .i64 a1, .int .i64 a2] _ HRX2.out Tryz.underlying43 rfl (by rw [(zero_of_info info_rg).2]; rfl) ?_)
        have hS0 : Below (wr.heap.size + 1) (wr.alloc (.cells #[.int .i64 a1, .int .i64 a2] 43 (0, 0))) (wr.alloc (.cells #[.int .i64 a1, .int .i64 a2] 43 (0, 0))) := Below.refl _ _
        have HSAL : Hid (∀ o, Below (wr.heap.size + 1) (wr.alloc (.cells #[.int .i64 a1, .int .i64 a2] 43 (0, 0))) ((wr.alloc (.cells #[.int .i64 a1, .int .i64 a2] 43 (0, 0))).drew.alloc o)) := fun o => hS0.drew.alloc (by simp) o
        have HNS : Hid (RdN ((wr.alloc (.cells #[.int .i64 a1, .int .i64 a2] 43 (0, 0))).drew.alloc (.cells #[.int .u64 (d1 : Nat), .int .u64 (d2 : Nat)] 22 (0, 0))) (wr.heap.size + 1) [d1, d2]) := by
          have h9 := rdn_lit (wr.alloc (.cells #[.int .i64 a1, .int .i64 a2] 43 (0, 0))).drew #[.int .u64 (d1 : Nat), .int .u64 (d2 : Nat)] 22 [d1, d2] rfl
          rw [show (wr.alloc (.cells #[.int .i64 a1, .int .i64 a2] 43 (0, 0))).drew.heap.size = wr.heap.size + 1 from heap_alloc_size1' _ _] at h9
          exact h9
        have HWB : Hid (∀ u, Below (wr.heap.size + 1) (wr.alloc (.cells #[.int .i64 a1, .int .i64 a2] 43 (0, 0))) u → Below wr.heap.size wr u) := fun u hu => (al (Below.refl _ wr) _).trans (hu.mono (by omega))
        refine wp_region_noPanic ?_
        refine wp_region_held_drew (S := (fun u => Below (wr.heap.size + 1) (wr.alloc (.cells #[.int .i64 a1, .int .i64 a2] 43 (0, 0))) u)) (by kernel_rfl) (by first | exact hS0.drew | assumption | exact hS5 | exact HSAL.out _) (fun hHeld => ?_)
        refine take_at (i := 0) 32 (v := ?_) rfl rfl (by kernel_rfl) (by kernel_rfl) (by kernel_rfl) (fun _ _ _ h => h) (by rfl) ?_ hHeld ?_
        rotate_left
        · (intro w hSw; (try dsimp only at hSw); go_simp; try with_reducible rfl)
        simp only [Act.put, List.setIfInBounds_toArray, List.set_cons_zero, List.set_cons_succ]
        refine take_at (i := 1) 33 (v := ?_) rfl rfl (by kernel_rfl) (by kernel_rfl) (by kernel_rfl) (fun _ _ _ h => h) (by rfl) ?_ hHeld ?_
        rotate_left
        · (intro w hSw; (try dsimp only at hSw); go_simp; try with_reducible rfl)
        simp only [Act.put, List.setIfInBounds_toArray, List.set_cons_zero, List.set_cons_succ]
        refine take_at (i := 2) 34 (v := ?_) rfl rfl (by kernel_rfl) (by kernel_rfl) (by kernel_rfl) (fun _ _ _ h => h) (by rfl) ?_ hHeld ?_
        rotate_left
        · (intro w hSw; (try dsimp only at hSw); go_simp; try with_reducible rfl)
        simp only [Act.put, List.setIfInBounds_toArray, List.set_cons_zero, List.set_cons_succ]
        refine take_at (i := 3) 35 (v := ?_) rfl rfl (by kernel_rfl) (by kernel_rfl) (by kernel_rfl) (fun _ _ _ h => h) (by rfl) ?_ hHeld ?_
        rotate_left
        · (intro w hSw; (try dsimp only at hSw); go_simp; try with_reducible rfl)
        simp only [Act.put, List.setIfInBounds_toArray, List.set_cons_zero, List.set_cons_succ]
        refine take_at (i := 4) 36 (v := ?_) rfl rfl (by kernel_rfl) (by kernel_rfl) (by kernel_rfl) (fun _ _ _ h => h) (by rfl) ?_ hHeld ?_
        rotate_left
        · (intro w hSw; (try dsimp only at hSw); go_simp; try with_reducible rfl)
        simp only [Act.put, List.setIfInBounds_toArray, List.set_cons_zero, List.set_cons_succ]
        refine take_at (i := 5) 37 (v := ?_) rfl rfl (by kernel_rfl) (by kernel_rfl) (by kernel_rfl) (fun _ _ _ h => h) (by rfl) ?_ hHeld ?_
        rotate_left
        · (intro w hSw; (try dsimp only at hSw); go_simp; try with_reducible rfl)
        simp only [Act.put, List.setIfInBounds_toArray, List.set_cons_zero, List.set_cons_succ]
        refine take_at (i := 6) 38 (v := ?_) rfl rfl (by kernel_rfl) (by kernel_rfl) (by kernel_rfl) (fun _ _ _ h => h) (by rfl) ?_ hHeld ?_
        rotate_left
        · (intro w hSw; (try dsimp only at hSw); go_simp; try with_reducible rfl)
        simp only [Act.put, List.setIfInBounds_toArray, List.set_cons_zero, List.set_cons_succ]
        refine take_at (i := 10) 42 (v := ?_) rfl rfl (by kernel_rfl) (by kernel_rfl) (by kernel_rfl) (fun _ _ _ h => h) (by rfl) ?_ hHeld ?_
        rotate_left
        · (intro w hSw; (try dsimp only at hSw); go_simp; try with_reducible rfl)
        simp only [Act.put, List.setIfInBounds_toArray, List.set_cons_zero, List.set_cons_succ]
        refine take_at (i := 11) 43 (v := ?_) rfl rfl (by kernel_rfl) (by kernel_rfl) (by kernel_rfl) (fun _ _ _ h => h) (by rfl) ?_ hHeld ?_
        rotate_left
        · (intro w hSw; (try dsimp only at hSw); go_simp; try with_reducible rfl)
        simp only [Act.put, List.setIfInBounds_toArray, List.set_cons_zero, List.set_cons_succ]
        refine take_at (i := 12) 44 (v := ?_) rfl rfl (by kernel_rfl) (by kernel_rfl) (by kernel_rfl) (fun _ _ _ h => h) (by rfl) ?_ hHeld ?_
        rotate_left
        · (intro w hSw; (try dsimp only at hSw); go_simp; try with_reducible rfl)
        simp only [Act.put, List.setIfInBounds_toArray, List.set_cons_zero, List.set_cons_succ]
        refine take_at (i := 13) 45 (v := ?_) rfl rfl (by kernel_rfl) (by kernel_rfl) (by kernel_rfl) (fun _ _ _ h => h) (by rfl) ?_ hHeld ?_
        rotate_left
        · (intro w hSw; (try dsimp only at hSw); go_simp; try with_reducible rfl)
        simp only [Act.put, List.setIfInBounds_toArray, List.set_cons_zero, List.set_cons_succ]
        refine take_at (i := 14) 46 (v := ?_) rfl rfl (by kernel_rfl) (by kernel_rfl) (by kernel_rfl) (fun _ _ _ h => h) (by rfl) ?_ hHeld ?_
        rotate_left
        · (intro w hSw; (try dsimp only at hSw); go_simp; try with_reducible rfl)
        simp only [Act.put, List.setIfInBounds_toArray, List.set_cons_zero, List.set_cons_succ]
        refine take_at (i := 15) 47 (v := ?_) rfl rfl (by kernel_rfl) (by kernel_rfl) (by kernel_rfl) (fun _ _ _ h => h) (by rfl) ?_ hHeld ?_
        rotate_left
        · (intro w hSw; (try dsimp only at hSw); go_simp; try with_reducible rfl)
        simp only [Act.put, List.setIfInBounds_toArray, List.set_cons_zero, List.set_cons_succ]
        refine run_at (i := 7) rfl (by kernel_rfl) (by rfl) (fun K hK => ?_)
        simp only [List.getElem_toArray, List.getElem_cons_zero, List.getElem_cons_succ]
        go_simp
        first | (go_at_call 98; refine Calls.mono (HPE.out _ (HW.out _ HSX.out.drew)) ?_; rintro e1 w4 ⟨rfl, rfl⟩) | (go_at_call 25; refine Calls.mono (lay_t a L cc (zs ++ gotB (l.take kk)) HLL.out (wr.heap.size + 1) 2 2 [d1, d2] rfl _ (HR.out.below (HWB.out _ (HSAL.out _))) HNLL.out HNS.out (fun n hn => by simp at hn; have := HDB.out; omega) (by have := HLB.out; omega) (by decide)) ?_; rintro e1 w5 ⟨a5, L5, c5, rfl, hL5, hr5, hn5, hb5⟩; have HL5 : Hid _ := hL5; have HR5 : Hid (Rd w5 a5 (zs ++ gotB (l.take kk) ++ dgs [d1, d2])) := hr5; have HN5 : Hid (a5 = none → c5 = 0) := hn5; have hS5 : Below (wr.heap.size + 1) (wr.alloc (.cells #[.int .i64 a1, .int .i64 a2] 43 (0, 0))) w5 := (HSAL.out _).trans (hb5.mono (by simp)); have HS5 : Hid (Below (wr.heap.size + 1) (wr.alloc (.cells #[.int .i64 a1, .int .i64 a2] 43 (0, 0))) w5) := hS5; clear hL5 hr5 hn5 hb5)
        go_wp2_with fail
        refine hK.out _ _ (by first | exact hS0.drew | assumption | exact hS5 | exact HSAL.out _) ?_
        clear hK K
        intro hHeld2
        clear hHeld
        have hHeld := hHeld2
        clear hHeld2
        try simp only [Act.put, List.setIfInBounds_toArray, List.set_cons_zero, List.set_cons_succ]
        refine take_at (i := 8) 40 (v := ?_) rfl rfl (by kernel_rfl) (by kernel_rfl) (by kernel_rfl) (fun _ _ _ h => h) (by rfl) ?_ hHeld ?_
        rotate_left
        · (intro w hSw; (try dsimp only at hSw); go_simp; try with_reducible rfl)
        simp only [Act.put, List.setIfInBounds_toArray, List.set_cons_zero, List.set_cons_succ]
        refine take_at (i := 9) 41 (v := ?_) rfl rfl (by kernel_rfl) (by kernel_rfl) (by kernel_rfl) (fun _ _ _ h => h) (by rfl) ?_ hHeld ?_
        rotate_left
        · (intro w hSw; (try dsimp only at hSw); go_simp; try with_reducible rfl)
        simp only [Act.put, List.setIfInBounds_toArray, List.set_cons_zero, List.set_cons_succ]
        refine run_at (i := 16) rfl (by kernel_rfl) (by rfl) (fun K hK => ?_)
        simp only [List.getElem_toArray, List.getElem_cons_zero, List.getElem_cons_succ]
        go_simp
        go_wp2_with fail
        refine hK.out _ _ (by first | exact hS0.drew | assumption | exact hS5 | exact HSAL.out _) ?_
        clear hK K
        intro hHeld2
        clear hHeld
        have hHeld := hHeld2
        clear hHeld2
        try simp only [Act.put, List.setIfInBounds_toArray, List.set_cons_zero, List.set_cons_succ]
        refine run_at (i := 17) rfl (by kernel_rfl) (by rfl) (fun K hK => ?_)
        simp only [List.getElem_toArray, List.getElem_cons_zero, List.getElem_cons_succ]
        go_simp
        first | (go_at_call 98; refine Calls.mono (HPE.out _ (HW.out _ HSX.out.drew)) ?_; rintro e1 w4 ⟨rfl, rfl⟩) | (go_at_call 25; refine Calls.mono (lay_t a L cc (zs ++ gotB (l.take kk)) HLL.out (wr.heap.size + 1) 2 2 [d1, d2] rfl _ (HR.out.below (HWB.out _ (HSAL.out _))) HNLL.out HNS.out (fun n hn => by simp at hn; have := HDB.out; omega) (by have := HLB.out; omega) (by decide)) ?_; rintro e1 w5 ⟨a5, L5, c5, rfl, hL5, hr5, hn5, hb5⟩; have HL5 : Hid _ := hL5; have HR5 : Hid (Rd w5 a5 (zs ++ gotB (l.take kk) ++ dgs [d1, d2])) := hr5; have HN5 : Hid (a5 = none → c5 = 0) := hn5; have hS5 : Below (wr.heap.size + 1) (wr.alloc (.cells #[.int .i64 a1, .int .i64 a2] 43 (0, 0))) w5 := (HSAL.out _).trans (hb5.mono (by simp)); have HS5 : Hid (Below (wr.heap.size + 1) (wr.alloc (.cells #[.int .i64 a1, .int .i64 a2] 43 (0, 0))) w5) := hS5; clear hL5 hr5 hn5 hb5)
        go_wp2_with fail
        refine hK.out _ _ (by first | exact hS0.drew | assumption | exact hS5 | exact HSAL.out _) ?_
        clear hK K
        intro hHeld2
        clear hHeld
        have hHeld := hHeld2
        clear hHeld2
        try simp only [Act.put, List.setIfInBounds_toArray, List.set_cons_zero, List.set_cons_succ]
        refine take_at (i := 18) 0 (v := ?_) rfl rfl (by kernel_rfl) (by kernel_rfl) (by kernel_rfl) (fun _ _ _ h => h) (by rfl) ?_ hHeld ?_
        rotate_left
        · (intro w hSw; (try dsimp only at hSw); go_simp; try with_reducible rfl)
        simp only [Act.put, List.setIfInBounds_toArray, List.set_cons_zero, List.set_cons_succ]
        refine wpAnyH_done (by kernel_rfl) ?_ _
        refine NoPanic.normal ?_
        go_wp2
        go_roundw
        case rel => exact ⟨kk + 1, a5, L5, c5, by omega, by go_num, rfl, by rw [HGB.out, ← List.append_assoc]; exact HL5.out, by rw [HGB.out, ← List.append_assoc]; exact HR5.out, HN5.out, HSX.out.trans (HS5.out.mono (by omega))⟩
        case measure => simp [intOf]; omega
      · have hlti : ¬ (kk : Int) < (gn : Int) := by omega
        have HT : Hid (l.take kk = l) := List.take_of_length_le (by have := HGN.out; omega)
        rw [HT.out, HZS.out] at HLL HR
        clear hbw
        go_wp2
        go_ret
        exact ⟨a, L, cc, rfl, (by have h9 := HLL.out; simpa only [List.append_assoc] using h9), (by have h9 := HR.out; simpa only [List.append_assoc] using h9), HNLL.out, HW.out _ HB.out⟩
  · rw [if_neg h0]
    have h0b : ((CD : Int) == 0) = false := by simpa using h0
    have h0n : ((CD : Int) != 0) = true := by simpa using h0
    go_enter Tryz.func68, Tryz.ntmps68
    go_wp2_with fail
    refine Calls.mono (lay_t ao n cap xs HN.out.1 _ 1 1 [CD] rfl _ (HRX.out _ (al (al (Below.refl _ _) _) _)) HNL.out (by first | exact HNC.out _ | (have h9 := HNC.out (w.alloc (.cells #[.int .i64 k, .int .u64 e, .int .u64 s, .int .i64 p, .int .i64 i, .int .i64 c, .slice da dn dc, .int .i64 (CD : Nat), .slice ga gn gc] 26 (0, 0))); rw [heap_alloc_size1'] at h9; exact h9)) HL1.out (by have := HN.out.2; omega) (by decide)) ?_
    rintro e1 w2 ⟨a2, L2, c2, rfl, hL2, hr2, hn2, hb2⟩
    have HL2 : Hid _ := hL2
    have HB2 : Hid (Below w.heap.size w w2) := below_next (al (al (Below.refl _ _) _) _) hb2
    have HS2 : Hid (Below (w.heap.size + 1) (w.alloc (.cells #[.int .i64 k, .int .u64 e, .int .u64 s, .int .i64 p, .int .i64 i, .int .i64 c, .slice da dn dc, .int .i64 (CD : Nat), .slice ga gn gc] 26 (0, 0))) w2) := (HS0.out.alloc (by simp) _).trans (hb2.mono (by simp))
    have hx72 := HC7.out _ HS2.out
    clear hL2
    go_wp2
    go_ret
    exact ⟨a2, L2, c2, rfl, HL2.out, hr2, hn2, HB2.out⟩
end
end Go.Proofs.YtplncfahpdmcoaaGreatDoor
