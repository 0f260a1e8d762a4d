import Derived.Test.YtnpcgegcoakbmaaDoorLEs
namespace Go.Proofs.YtnpcgegcoakbmaaDoor
set_option linter.unusedVariables false
set_option linter.unusedSimpArgs false
open Go.RowKit
def X0 : Nat → Prop := fun _ => False
/-- what a call leaves -/
def nx (R : Nat) (L : List Dgm) (k : Int) (xs : List UInt8) (i at_ : Int) (m : Nat) : List Dgm := if k = 1 then putL R L xs else if k = 3 ∨ k = 4 then dropL L i else if k = 5 then dblL R L i else if k = 6 then trnL L i at_ m else L
abbrev opv (kd : Int) (ao : Option Addr) (n cap : Nat) (i at_ : Int) (m : Nat) : Array Value := #[.int .i64 kd, .slice ao n cap, .int .i64 i, .int .i64 at_, .int .u32 (m : Int)]
abbrev tOp : TypeId := 46
theorem opcell {u : World} {x : Nat} {kd i at_ : Int} {ao : Option Addr} {n cap m : Nat} (h : u.heap[x]? = some (.cells (opv kd ao n cap i at_ m) tOp (0, 0))) : u.cell? ⟨x, 0, none⟩ = some (.int .i64 kd) ∧ u.cell? ⟨x, 1, none⟩ = some (.slice ao n cap) ∧ u.cell? ⟨x, 2, none⟩ = some (.int .i64 i) ∧ u.cell? ⟨x, 3, none⟩ = some (.int .i64 at_) ∧ u.cell? ⟨x, 4, none⟩ = some (.int .u32 (m : Int)) := by
  refine ⟨?_, ?_, ?_, ?_, ?_⟩ <;> (rw [cell_of_row _ _ _ _ _ _ h]; rfl)
section
variable {B : Nat} {w : World} {p q R : Nat} {L : List Dgm}
set_option maxRecDepth 20000 in
set_option maxHeartbeats 3200000 in
theorem step_1 (hP : On SP B X0 w p R L) (hR : On SR B X0 w q R L) (hB : B ≤ w.heap.size) (i at_ : Int) (m : Nat) (hm : m < 4294967296) (ha0 : -9223372036854775808 ≤ at_) (ha1 : at_ ≤ 9223372036854775807) (ao : Option Addr) (n cap : Nat) (xs : List UInt8) (hn : n = xs.length) (hx : ∀ u, Below B w u → Rd u ao xs) (hnil : ao = none → cap = 0) (hl : n ≤ 140737488351232) (ht : ∀ u, Below B w u → TabZ u) :
    Calls Tryd.prog 23 #[.pointer (some ⟨p, 0, none⟩), .pointer (some ⟨q, 0, none⟩), .agg (opv 1 ao n cap i at_ m)] w fun e w' => e = .returned (.bool true) ∧ On SP B X0 w' p R (nx R L 1 xs i at_ m) ∧ On SR B X0 w' q R (nx R L 1 xs i at_ m) ∧ Below B w w' := by
  subst hn
  have HP : Hid _ := hP
  have HR : Hid _ := hR
  have HX : Hid _ := hx
  have HN : Hid _ := hnil
  have HT : Hid _ := ht
  have HNX : Hid (nx R L 1 xs i at_ m = putL R L xs) := by unfold Hid nx; rw [if_pos rfl]
  clear hP hR hx hnil ht
  go_enter Tryd.func23, Tryd.ntmps23
  go_wp2_with fail
  obtain ⟨w1, hw1⟩ : ∃ w1, w1 = w.alloc (.cells (opv 1 ao xs.length cap i at_ m) tOp) := ⟨_, rfl⟩
  have hb1 : Below w.heap.size w w1 := by rw [hw1]; exact al (Below.refl _ _) _
  have hbx1 : w1.heap[w.heap.size]? = some (.cells (opv 1 ao xs.length cap i at_ m) tOp (0, 0)) := by rw [hw1]; exact heap_alloc_new w _
  rw [← hw1]
  clear hw1
  have hB1 : B ≤ w1.heap.size := Nat.le_trans hB hb1.size
  have hP1 := HP.out.below hb1
  have hR1 := HR.out.below hb1
  have hb01 : Below B w w1 := hb1.mono hB
  refine Calls.mono (bytes_any ao cap xs w1 (HX.out _ hb01) (by omega)) ?_
  rintro e w2 ⟨g, rfl, hgB, hown2, hb2⟩
  have hgl : g < w2.heap.size := (World.ownsRow.lt hown2 g rfl).2
  have hP2 : On SP B (fun b => b = g) w2 p R L := hP1.excl hb2 _ (fun b e => .inr (e ▸ hgB))
  have hR2 : On SR B (fun b => b = g) w2 q R L := hR1.excl hb2 _ (fun b e => .inr (e ▸ hgB))
  have hB2 : B ≤ w2.heap.size := Nat.le_trans hB1 hb2.size
  have hbx2 := (hb2.block _ (Array.getElem?_eq_some_iff.1 hbx1).1).trans hbx1
  have hb02 : Below B w w2 := hb01.trans (hb2.mono hB1)
  have HP2 : Hid _ := hP2
  have HR2 : Hid _ := hR2
  have HBX2 : Hid _ := hbx2
  have HO2 : Hid _ := hown2
  have HB02 : Hid _ := hb02
  have HBg : Hid (B ≤ g) := Nat.le_trans hB1 hgB
  clear hP1 hR1 hb1 hbx1 hb01 hown2 hb2 hP2 hR2 hbx2 hb02 hgB HP HR
  go_wp2_with fail
  have hrd2 : Rd w2 (some ⟨g, 0, none⟩) xs := by
    obtain ⟨a, c, hv, -, -, -, hrd, -⟩ := Own.val HO2.out
    simp only [Value.slice.injEq] at hv
    have h9 := Rd.take hrd xs.length
    rw [List.take_left' rfl] at h9
    rw [hv.1]
    exact h9
  refine Calls.mono (oPut HP2.out (fun b e => by subst e; exact hgl) hB2 (some ⟨g, 0, none⟩) _ _ xs rfl hrd2 (fun h => by cases h) (by omega)) ?_
  rintro e w3 ⟨rfl, hP3, hf3⟩
  have hR3 := HR2.out.rp hf3
  have hB3 : B ≤ w3.heap.size := Nat.le_trans hB2 hf3.bel.size
  have hgl3 : g < w3.heap.size := Nat.lt_of_lt_of_le hgl hf3.bel.size
  have hbx3 := (hf3.ty _ _ _ _ HBX2.out (by decide) (by decide)).trans HBX2.out
  have ho3 := hf3.own HO2.out
  have HB03 : Hid _ := HB02.out.trans hf3.bel
  obtain ⟨-, d1, -⟩ := opcell hbx3
  have HP3 : Hid _ := hP3
  have HR3 : Hid _ := hR3
  have HBX3 : Hid _ := hbx3
  have HO3 : Hid _ := ho3
  obtain ⟨z, hz⟩ : ∃ z, z = putE R L xs := ⟨_, rfl⟩
  have HZ : Hid _ := hz
  have hzz : (z == z) = true := beq_self_eq_true z
  rw [← hz]
  clear hP3 hR3 hbx3 ho3 hrd2 hf3 hz
  go_wp2_with fail
  refine Calls.mono (orPut HR3.out (fun b e => by subst e; exact hgl3) hB3 ao _ cap xs rfl (HX.out _ HB03.out) HN.out (by omega)) ?_
  rintro e w4 ⟨rfl, hR4, hf4⟩
  have hP4 := HP3.out.pr hf4
  have hB4 : B ≤ w4.heap.size := Nat.le_trans hB3 hf4.bel.size
  have hgl4 : g < w4.heap.size := Nat.lt_of_lt_of_le hgl3 hf4.bel.size
  have hbx4 := (hf4.ty _ _ _ _ HBX3.out (by decide) (by decide)).trans HBX3.out
  have ho4 := hf4.own HO3.out
  have HB04 : Hid _ := HB03.out.trans hf4.bel
  have d2 := (opcell hbx4).2.1
  have HP4 : Hid _ := hP4
  have HR4 : Hid _ := hR4
  have HO4 : Hid _ := ho4
  rw [← HZ.out]
  clear hP4 hR4 hbx4 ho4 hf4 d1
  go_wp2_with fail
  have hrd4 : Rd w4 (some ⟨g, 0, none⟩) (xs ++ m4) := by
    obtain ⟨a, c, hv, -, -, -, hrd, -⟩ := Own.val HO4.out
    simp only [Value.slice.injEq] at hv
    rw [hv.1]
    exact hrd
  refine Calls.mono (stays_t g ao cap xs w4 hrd4 (HX.out _ HB04.out) (by omega)) ?_
  rintro e w5 ⟨rfl, hb5⟩
  have HP5 : Hid _ := HP4.out.below hb5
  have HR5 : Hid _ := HR4.out.below hb5
  have HO5 : Hid _ := Own.below HO4.out hb5
  have HB05 : Hid _ := HB04.out.trans (hb5.mono hB4)
  have hgl5 : g < w5.heap.size := Nat.lt_of_lt_of_le hgl4 hb5.size
  have hB5 : B ≤ w5.heap.size := Nat.le_trans hB4 hb5.size
  clear hrd4 hb5 d2 HP4 HR4 HO4 HP3 HR3 HO3 HP2 HR2 HO2 HBX2 HBX3
  obtain ⟨N, hN⟩ : ∃ N, N = xs.length + 4 := ⟨_, rfl⟩
  have HN4 : Hid _ := hN
  rw [← hN] at HO5
  have hxN : xs.length ≤ N := by omega
  clear hN
  go_wp2
  go_loopw [10] (fun j wr => ∃ (k : Nat) (ys : List UInt8), k ≤ xs.length ∧ j = .int .i64 k ∧ Hid (ys.length = N) ∧ Own wr w1.heap.size (.slice (some ⟨g, 0, none⟩) N N) ys ∧ w5.grownBy wr (some g)) (fun j _ => xs.length - (intOf j).toNat)
  case atStart => exact ⟨0, _, Nat.zero_le _, rfl, by unfold Hid; rw [HN4.out]; simp [m4], HO5.out, World.grownBy.refl _ _⟩
  case round =>
    obtain ⟨k, ys, hk, rfl, HY, hok, hgk⟩ := hrel
    by_cases hlt : k < xs.length
    · have hok' := hok
      rw [← HY.out] at hok'
      have hky : k < ys.length := by rw [HY.out]; omega
      have hcell : wr.cell? ⟨g, k, none⟩ = some (.int .u8 (ys[k].toNat : Int)) := by
        rw [World.ownsRow.cellAt hok' k (by omega), bv_get _ k hky]
      have hfz := World.ownsRow.frozenAt hok' k
      have hst := own_set hok' k 90 90 rfl
      rw [HY.out] at hst
      have HST : Hid _ := hst
      have HG : Hid _ := hgk
      have HY2 : Hid ((ys.set k 90).length = N) := by unfold Hid; rw [List.length_set]; exact HY.out
      clear hok' hst hok hgk
      go_wp2
      go_roundw
      case rel => exact ⟨k + 1, _, by omega, by go_num, HY2, HST.out.1, HG.out.trans' HST.out.2⟩
      case measure => simp [intOf]; omega
    · obtain rfl : k = xs.length := by omega
      have HG : Hid _ := hgk
      clear hok hgk
      go_wp2
      go_ret
      rw [HNX.out]
      have hk9 : ∀ b, b < w5.heap.size → ¬ b = g → wr.heap[b]? = w5.heap[b]? := fun b hb hne => HG.out.block b hb (fun e => hne (Option.some.inj e))
      refine ⟨rfl, (HP5.out.write hk9).less _ (fun b hb => hb.elim), (HR5.out.write hk9).less _ (fun b hb => hb.elim), HB05.out.trans ((Chg.of_grown HG.out (F := fun b => b = g) (fun b e => (Option.some.inj e).symm)).below (fun b e => e ▸ HBg.out) hB5)⟩
set_option maxRecDepth 20000 in
set_option maxHeartbeats 3200000 in
theorem step_2 (hP : On SP B X0 w p R L) (hR : On SR B X0 w q R L) (hB : B ≤ w.heap.size) (i at_ : Int) (m : Nat) (hm : m < 4294967296) (ha0 : -9223372036854775808 ≤ at_) (ha1 : at_ ≤ 9223372036854775807) (ao : Option Addr) (n cap : Nat) (xs : List UInt8) (hn : n = xs.length) (hx : ∀ u, Below B w u → Rd u ao xs) (hnil : ao = none → cap = 0) (hl : n ≤ 140737488351232) (ht : ∀ u, Below B w u → TabZ u) :
    Calls Tryd.prog 23 #[.pointer (some ⟨p, 0, none⟩), .pointer (some ⟨q, 0, none⟩), .agg (opv 2 ao n cap i at_ m)] w fun e w' => e = .returned (.bool true) ∧ On SP B X0 w' p R (nx R L 2 xs i at_ m) ∧ On SR B X0 w' q R (nx R L 2 xs i at_ m) ∧ Below B w w' := by
  subst hn
  have HP : Hid _ := hP
  have HR : Hid _ := hR
  have HX : Hid _ := hx
  have HN : Hid _ := hnil
  have HT : Hid _ := ht
  have HNX : Hid (nx R L 2 xs i at_ m = L) := by unfold Hid nx; rw [if_neg (by decide), if_neg (by decide), if_neg (by decide), if_neg (by decide)]
  clear hP hR hx hnil ht
  go_enter Tryd.func23, Tryd.ntmps23
  go_wp2_with fail
  obtain ⟨w1, hw1⟩ : ∃ w1, w1 = w.alloc (.cells (opv 2 ao xs.length cap i at_ m) tOp) := ⟨_, rfl⟩
  have hb1 : Below w.heap.size w w1 := by rw [hw1]; exact al (Below.refl _ _) _
  have hbx1 : w1.heap[w.heap.size]? = some (.cells (opv 2 ao xs.length cap i at_ m) tOp (0, 0)) := by rw [hw1]; exact heap_alloc_new w _
  rw [← hw1]
  clear hw1
  have hB1 : B ≤ w1.heap.size := Nat.le_trans hB hb1.size
  have hP1 := HP.out.below hb1
  have hR1 := HR.out.below hb1
  have hb01 : Below B w w1 := hb1.mono hB
  refine Calls.mono (oLook hP1 i) ?_
  rintro e w2 ⟨u1, rfl, hown2, hb2⟩
  obtain ⟨a1, c1, hu1, -, -, -, hr1, -⟩ := hown2.val
  obtain ⟨Y, hY⟩ : ∃ Y, Y = lookX L i := ⟨_, rfl⟩
  rw [← hY] at hu1 hr1
  subst hu1
  have hbx2 := (hb2.block _ (Array.getElem?_eq_some_iff.1 hbx1).1).trans hbx1
  obtain ⟨-, -, d2, -⟩ := opcell hbx2
  have HP2 : Hid _ := hP1.below hb2
  have HR2 : Hid _ := hR1.below hb2
  have HB02 : Hid _ := hb01.trans (hb2.mono hB1)
  have hB2 : B ≤ w2.heap.size := Nat.le_trans hB1 hb2.size
  have HRD2 : Hid _ := hr1
  have HY : Hid _ := hY
  obtain ⟨z, hz⟩ : ∃ z, z = plE L i := ⟨_, rfl⟩
  have HZ : Hid _ := hz
  have hzz : (z == z) = true := beq_self_eq_true z
  rw [← hz]
  clear hP1 hR1 hb1 hbx1 hb01 hown2 hb2 hbx2 hz hr1 hY
  go_wp2_with fail
  refine Calls.mono (orLook HR2.out i) ?_
  rintro e w3 ⟨u2, rfl, hown3, hb3⟩
  rw [← HY.out, ← HZ.out] at *
  obtain ⟨a2, c2, hu2, -, -, -, hr2, -⟩ := hown3.val
  subst hu2
  have hcv1 := conv_rd' (Rd.below HRD2.out hb3) _ c1 rfl
  have hcv2 := conv_rd' hr2 _ c2 rfl
  have HP3 : Hid _ := HP2.out.below hb3
  have HR3 : Hid _ := HR2.out.below hb3
  have HB03 : Hid _ := HB02.out.trans (hb3.mono hB2)
  clear hown3 hb3 hr2 d2
  go_wp2
  go_ret
  rw [HNX.out]
  exact ⟨by simp, HP3.out, HR3.out, HB03.out⟩
set_option maxRecDepth 20000 in
set_option maxHeartbeats 3200000 in
theorem step_3 (hP : On SP B X0 w p R L) (hR : On SR B X0 w q R L) (hB : B ≤ w.heap.size) (i at_ : Int) (m : Nat) (hm : m < 4294967296) (ha0 : -9223372036854775808 ≤ at_) (ha1 : at_ ≤ 9223372036854775807) (ao : Option Addr) (n cap : Nat) (xs : List UInt8) (hn : n = xs.length) (hx : ∀ u, Below B w u → Rd u ao xs) (hnil : ao = none → cap = 0) (hl : n ≤ 140737488351232) (ht : ∀ u, Below B w u → TabZ u) :
    Calls Tryd.prog 23 #[.pointer (some ⟨p, 0, none⟩), .pointer (some ⟨q, 0, none⟩), .agg (opv 3 ao n cap i at_ m)] w fun e w' => e = .returned (.bool true) ∧ On SP B X0 w' p R (nx R L 3 xs i at_ m) ∧ On SR B X0 w' q R (nx R L 3 xs i at_ m) ∧ Below B w w' := by
  subst hn
  have HP : Hid _ := hP
  have HR : Hid _ := hR
  have HX : Hid _ := hx
  have HN : Hid _ := hnil
  have HT : Hid _ := ht
  have HNX : Hid (nx R L 3 xs i at_ m = dropL L i) := by unfold Hid nx; rw [if_neg (by decide), if_pos (.inl rfl)]
  clear hP hR hx hnil ht
  go_enter Tryd.func23, Tryd.ntmps23
  go_wp2_with fail
  obtain ⟨w1, hw1⟩ : ∃ w1, w1 = w.alloc (.cells (opv 3 ao xs.length cap i at_ m) tOp) := ⟨_, rfl⟩
  have hb1 : Below w.heap.size w w1 := by rw [hw1]; exact al (Below.refl _ _) _
  have hbx1 : w1.heap[w.heap.size]? = some (.cells (opv 3 ao xs.length cap i at_ m) tOp (0, 0)) := by rw [hw1]; exact heap_alloc_new w _
  rw [← hw1]
  clear hw1
  have hB1 : B ≤ w1.heap.size := Nat.le_trans hB hb1.size
  have hP1 := HP.out.below hb1
  have hR1 := HR.out.below hb1
  have hb01 : Below B w w1 := hb1.mono hB
  refine Calls.mono (oTake hP1 (fun b hb => hb.elim) hB1 i) ?_
  rintro e w2 ⟨⟨u1, rfl, hown2⟩, hP2, hf2⟩
  obtain ⟨Y, hY⟩ : ∃ Y, Y = lookX L i := ⟨_, rfl⟩
  rw [← hY] at hown2
  obtain ⟨a1, c1, hu1, -, -, -, -, -⟩ := hown2.val
  subst hu1
  have hbx2 := (hf2.ty _ _ _ _ hbx1 (by decide) (by decide)).trans hbx1
  obtain ⟨-, -, d2, -⟩ := opcell hbx2
  have HP2 : Hid _ := hP2
  have HR2 : Hid _ := hR1.rp hf2
  have HB02 : Hid _ := hb01.trans hf2.bel
  have hB2 : B ≤ w2.heap.size := Nat.le_trans hB1 hf2.bel.size
  have HO2 : Hid _ := hown2
  have HY : Hid _ := hY
  obtain ⟨z, hz⟩ : ∃ z, z = plE L i := ⟨_, rfl⟩
  have HZ : Hid _ := hz
  have hzz : (z == z) = true := beq_self_eq_true z
  rw [← hz]
  clear hP1 hR1 hb1 hbx1 hb01 hown2 hP2 hf2 hbx2 hz hY
  go_wp2_with fail
  refine Calls.mono (orTake HR2.out (fun b hb => hb.elim) hB2 i) ?_
  rintro e w3 ⟨⟨u2, rfl, hown3⟩, hR3, hf3⟩
  rw [← HY.out] at hown3
  rw [← HZ.out]
  obtain ⟨a2, c2, hu2, -, -, -, hr2, -⟩ := hown3.val
  subst hu2
  have ho3 := hf3.own HO2.out
  obtain ⟨a9, c9, hu9, -, -, -, hr9, -⟩ := ho3.val
  cases hu9
  have hcv1 := conv_rd' hr9 _ c1 rfl
  have hcv2 := conv_rd' hr2 _ c2 rfl
  have HP3 : Hid _ := HP2.out.pr hf3
  have HR3 : Hid _ := hR3
  have HB03 : Hid _ := HB02.out.trans hf3.bel
  clear hown3 hf3 hr2 d2 hr9 ho3 hR3
  go_wp2
  go_ret
  rw [HNX.out]
  exact ⟨by simp, HP3.out, HR3.out, HB03.out⟩
set_option maxRecDepth 20000 in
set_option maxHeartbeats 3200000 in
theorem step_4 (hP : On SP B X0 w p R L) (hR : On SR B X0 w q R L) (hB : B ≤ w.heap.size) (i at_ : Int) (m : Nat) (hm : m < 4294967296) (ha0 : -9223372036854775808 ≤ at_) (ha1 : at_ ≤ 9223372036854775807) (ao : Option Addr) (n cap : Nat) (xs : List UInt8) (hn : n = xs.length) (hx : ∀ u, Below B w u → Rd u ao xs) (hnil : ao = none → cap = 0) (hl : n ≤ 140737488351232) (ht : ∀ u, Below B w u → TabZ u) :
    Calls Tryd.prog 23 #[.pointer (some ⟨p, 0, none⟩), .pointer (some ⟨q, 0, none⟩), .agg (opv 4 ao n cap i at_ m)] w fun e w' => e = .returned (.bool true) ∧ On SP B X0 w' p R (nx R L 4 xs i at_ m) ∧ On SR B X0 w' q R (nx R L 4 xs i at_ m) ∧ Below B w w' := by
  subst hn
  have HP : Hid _ := hP
  have HR : Hid _ := hR
  have HX : Hid _ := hx
  have HN : Hid _ := hnil
  have HT : Hid _ := ht
  have HNX : Hid (nx R L 4 xs i at_ m = dropL L i) := by unfold Hid nx; rw [if_neg (by decide), if_pos (.inr rfl)]
  clear hP hR hx hnil ht
  go_enter Tryd.func23, Tryd.ntmps23
  go_wp2_with fail
  obtain ⟨w1, hw1⟩ : ∃ w1, w1 = w.alloc (.cells (opv 4 ao xs.length cap i at_ m) tOp) := ⟨_, rfl⟩
  have hb1 : Below w.heap.size w w1 := by rw [hw1]; exact al (Below.refl _ _) _
  have hbx1 : w1.heap[w.heap.size]? = some (.cells (opv 4 ao xs.length cap i at_ m) tOp (0, 0)) := by rw [hw1]; exact heap_alloc_new w _
  rw [← hw1]
  clear hw1
  have hB1 : B ≤ w1.heap.size := Nat.le_trans hB hb1.size
  have hP1 := HP.out.below hb1
  have hR1 := HR.out.below hb1
  have hb01 : Below B w w1 := hb1.mono hB
  have HP1 : Hid _ := hP1
  have HR1 : Hid _ := hR1
  have HB01 : Hid _ := hb01
  obtain ⟨z, hz⟩ : ∃ z, z = plE L i := ⟨_, rfl⟩
  have HZ : Hid _ := hz
  have hzz : (z == z) = true := beq_self_eq_true z
  have HBX1 : Hid _ := hbx1
  clear hP1 hR1 hb1 hb01 hz hbx1
  refine wp_region_noPanic ?_
  refine wp_region_held_drew (S := (fun u => u.heap[w.heap.size]? = some (.cells (opv 4 ao xs.length cap i at_ m) tOp (0, 0)))) (by kernel_rfl) (by first | exact HBX1.out | assumption) (fun hHeld => ?_)
  refine take_at (i := 0) 105 (v := ?_) rfl rfl (by kernel_rfl) (by kernel_rfl) (by kernel_rfl) (fun _ _ _ h => h) (by rfl) ?_ hHeld ?_
  rotate_left
  · (intro w hSw; (try dsimp only at hSw); go_simp; try with_reducible rfl)
  simp only [Act.put, List.setIfInBounds_toArray, List.set_cons_zero, List.set_cons_succ]
  refine take_at (i := 1) 106 (v := ?_) rfl rfl (by kernel_rfl) (by kernel_rfl) (by kernel_rfl) (fun _ _ _ h => h) (by rfl) ?_ hHeld ?_
  rotate_left
  · (intro w hSw; (try dsimp only at hSw); go_simp; try with_reducible rfl)
  simp only [Act.put, List.setIfInBounds_toArray, List.set_cons_zero, List.set_cons_succ]
  refine take_at (i := 2) 107 (v := .int .i64 i) rfl rfl (by kernel_rfl) (by kernel_rfl) (by kernel_rfl) (fun _ _ _ h => h) (by rfl) ?_ hHeld ?_
  · (intro w hSw; have hc9 := (opcell hSw).2.2.1; go_simp; try with_reducible rfl)
  simp only [Act.put, List.setIfInBounds_toArray, List.set_cons_zero, List.set_cons_succ]
  refine take_at (i := 4) 109 (v := ?_) rfl rfl (by kernel_rfl) (by kernel_rfl) (by kernel_rfl) (fun _ _ _ h => h) (by rfl) ?_ hHeld ?_
  rotate_left
  · (intro w hSw; (try dsimp only at hSw); go_simp; try with_reducible rfl)
  simp only [Act.put, List.setIfInBounds_toArray, List.set_cons_zero, List.set_cons_succ]
  refine take_at (i := 5) 110 (v := ?_) rfl rfl (by kernel_rfl) (by kernel_rfl) (by kernel_rfl) (fun _ _ _ h => h) (by rfl) ?_ hHeld ?_
  rotate_left
  · (intro w hSw; (try dsimp only at hSw); go_simp; try with_reducible rfl)
  simp only [Act.put, List.setIfInBounds_toArray, List.set_cons_zero, List.set_cons_succ]
  refine take_at (i := 6) 111 (v := .int .i64 i) rfl rfl (by kernel_rfl) (by kernel_rfl) (by kernel_rfl) (fun _ _ _ h => h) (by rfl) ?_ hHeld ?_
  · (intro w hSw; have hc9 := (opcell hSw).2.2.1; go_simp; try with_reducible rfl)
  simp only [Act.put, List.setIfInBounds_toArray, List.set_cons_zero, List.set_cons_succ]
  refine run_at (i := 3) rfl (by kernel_rfl) (by rfl) (fun K hK => ?_)
  simp only [List.getElem_toArray, List.getElem_cons_zero, List.getElem_cons_succ]
  go_simp
  first | (go_at_call 11; refine Calls.mono (oDrop (HP1.out.below (Below.refl _ _).drew) (fun b hb => hb.elim) hB1 i) ?_; rintro e w2 ⟨rfl, hP2, hf2⟩; rw [← HZ.out]; have hbx2 := (hf2.ty _ _ _ _ HBX1.out (by decide) (by decide)).trans HBX1.out; have HP2 : Hid _ := hP2; have HF2 : Hid _ := hf2; clear hP2 hf2) | (go_at_call 37; refine Calls.mono (orDrop ((HR1.out.below (Below.refl _ _).drew).rp HF2.out) (fun b hb => hb.elim) (Nat.le_trans hB1 HF2.out.bel.size) i) ?_; rintro e w3 ⟨rfl, hR3, hf3⟩; rw [← HZ.out]; have hbx3 := (hf3.ty _ _ _ _ hbx2 (by decide) (by decide)).trans hbx2; have HR3 : Hid _ := hR3; have HF3 : Hid _ := hf3; clear hR3 hf3)
  go_wp2_with fail
  refine hK.out _ _ (by first | exact HBX1.out | assumption) ?_
  clear hK K
  intro hHeld2
  clear hHeld
  have hHeld := hHeld2
  clear hHeld2
  try simp only [Act.put, List.setIfInBounds_toArray, List.set_cons_zero, List.set_cons_succ]
  refine run_at (i := 7) rfl (by kernel_rfl) (by rfl) (fun K hK => ?_)
  simp only [List.getElem_toArray, List.getElem_cons_zero, List.getElem_cons_succ]
  go_simp
  first | (go_at_call 11; refine Calls.mono (oDrop (HP1.out.below (Below.refl _ _).drew) (fun b hb => hb.elim) hB1 i) ?_; rintro e w2 ⟨rfl, hP2, hf2⟩; rw [← HZ.out]; have hbx2 := (hf2.ty _ _ _ _ HBX1.out (by decide) (by decide)).trans HBX1.out; have HP2 : Hid _ := hP2; have HF2 : Hid _ := hf2; clear hP2 hf2) | (go_at_call 37; refine Calls.mono (orDrop ((HR1.out.below (Below.refl _ _).drew).rp HF2.out) (fun b hb => hb.elim) (Nat.le_trans hB1 HF2.out.bel.size) i) ?_; rintro e w3 ⟨rfl, hR3, hf3⟩; rw [← HZ.out]; have hbx3 := (hf3.ty _ _ _ _ hbx2 (by decide) (by decide)).trans hbx2; have HR3 : Hid _ := hR3; have HF3 : Hid _ := hf3; clear hR3 hf3)
  go_wp2_with fail
  refine hK.out _ _ (by first | exact HBX1.out | assumption) ?_
  clear hK K
  intro hHeld2
  clear hHeld
  have hHeld := hHeld2
  clear hHeld2
  try simp only [Act.put, List.setIfInBounds_toArray, List.set_cons_zero, List.set_cons_succ]
  refine take_at (i := 8) 113 (v := ?_) rfl rfl (by kernel_rfl) (by kernel_rfl) (by kernel_rfl) (fun _ _ _ h => h) (by rfl) ?_ hHeld ?_
  rotate_left
  · (intro w hSw; (try dsimp only at hSw); go_simp; try with_reducible rfl)
  simp only [Act.put, List.setIfInBounds_toArray, List.set_cons_zero, List.set_cons_succ]
  refine take_at (i := 9) 6 (v := ?_) rfl rfl (by kernel_rfl) (by kernel_rfl) (by kernel_rfl) (fun _ _ _ h => h) (by rfl) ?_ hHeld ?_
  rotate_left
  · (intro w hSw; (try dsimp only at hSw); go_simp; try with_reducible rfl)
  simp only [Act.put, List.setIfInBounds_toArray, List.set_cons_zero, List.set_cons_succ]
  refine wpAnyH_done (by kernel_rfl) ?_ _
  refine NoPanic.normal ?_
  go_wp2
  go_ret
  rw [HNX.out]
  have hb09 : Below B w w3 := (HB01.out.drew.trans HF2.out.bel).trans HF3.out.bel
  exact ⟨by simp, HP2.out.pr HF3.out, HR3.out, hb09⟩
set_option maxRecDepth 20000 in
set_option maxHeartbeats 3200000 in
theorem step_5 (hP : On SP B X0 w p R L) (hR : On SR B X0 w q R L) (hB : B ≤ w.heap.size) (i at_ : Int) (m : Nat) (hm : m < 4294967296) (ha0 : -9223372036854775808 ≤ at_) (ha1 : at_ ≤ 9223372036854775807) (ao : Option Addr) (n cap : Nat) (xs : List UInt8) (hn : n = xs.length) (hx : ∀ u, Below B w u → Rd u ao xs) (hnil : ao = none → cap = 0) (hl : n ≤ 140737488351232) (ht : ∀ u, Below B w u → TabZ u) :
    Calls Tryd.prog 23 #[.pointer (some ⟨p, 0, none⟩), .pointer (some ⟨q, 0, none⟩), .agg (opv 5 ao n cap i at_ m)] w fun e w' => e = .returned (.bool true) ∧ On SP B X0 w' p R (nx R L 5 xs i at_ m) ∧ On SR B X0 w' q R (nx R L 5 xs i at_ m) ∧ Below B w w' := by
  subst hn
  have HP : Hid _ := hP
  have HR : Hid _ := hR
  have HX : Hid _ := hx
  have HN : Hid _ := hnil
  have HT : Hid _ := ht
  have HNX : Hid (nx R L 5 xs i at_ m = dblL R L i) := by unfold Hid nx; rw [if_neg (by decide), if_neg (by decide), if_pos rfl]
  clear hP hR hx hnil ht
  go_enter Tryd.func23, Tryd.ntmps23
  go_wp2_with fail
  obtain ⟨w1, hw1⟩ : ∃ w1, w1 = w.alloc (.cells (opv 5 ao xs.length cap i at_ m) tOp) := ⟨_, rfl⟩
  have hb1 : Below w.heap.size w w1 := by rw [hw1]; exact al (Below.refl _ _) _
  have hbx1 : w1.heap[w.heap.size]? = some (.cells (opv 5 ao xs.length cap i at_ m) tOp (0, 0)) := by rw [hw1]; exact heap_alloc_new w _
  rw [← hw1]
  clear hw1
  have hB1 : B ≤ w1.heap.size := Nat.le_trans hB hb1.size
  have hP1 := HP.out.below hb1
  have hR1 := HR.out.below hb1
  have hb01 : Below B w w1 := hb1.mono hB
  have HP1 : Hid _ := hP1
  have HR1 : Hid _ := hR1
  have HB01 : Hid _ := hb01
  obtain ⟨z, hz⟩ : ∃ z, z = dblE R L i := ⟨_, rfl⟩
  have HZ : Hid _ := hz
  have hzz : (z == z) = true := beq_self_eq_true z
  have HBX1 : Hid _ := hbx1
  clear hP1 hR1 hb1 hb01 hz hbx1
  refine wp_region_noPanic ?_
  refine wp_region_held_drew (S := (fun u => u.heap[w.heap.size]? = some (.cells (opv 5 ao xs.length cap i at_ m) tOp (0, 0)))) (by kernel_rfl) (by first | exact HBX1.out | assumption) (fun hHeld => ?_)
  refine take_at (i := 0) 116 (v := ?_) rfl rfl (by kernel_rfl) (by kernel_rfl) (by kernel_rfl) (fun _ _ _ h => h) (by rfl) ?_ hHeld ?_
  rotate_left
  · (intro w hSw; (try dsimp only at hSw); go_simp; try with_reducible rfl)
  simp only [Act.put, List.setIfInBounds_toArray, List.set_cons_zero, List.set_cons_succ]
  refine take_at (i := 1) 117 (v := ?_) rfl rfl (by kernel_rfl) (by kernel_rfl) (by kernel_rfl) (fun _ _ _ h => h) (by rfl) ?_ hHeld ?_
  rotate_left
  · (intro w hSw; (try dsimp only at hSw); go_simp; try with_reducible rfl)
  simp only [Act.put, List.setIfInBounds_toArray, List.set_cons_zero, List.set_cons_succ]
  refine take_at (i := 2) 118 (v := .int .i64 i) rfl rfl (by kernel_rfl) (by kernel_rfl) (by kernel_rfl) (fun _ _ _ h => h) (by rfl) ?_ hHeld ?_
  · (intro w hSw; have hc9 := (opcell hSw).2.2.1; go_simp; try with_reducible rfl)
  simp only [Act.put, List.setIfInBounds_toArray, List.set_cons_zero, List.set_cons_succ]
  refine take_at (i := 4) 120 (v := ?_) rfl rfl (by kernel_rfl) (by kernel_rfl) (by kernel_rfl) (fun _ _ _ h => h) (by rfl) ?_ hHeld ?_
  rotate_left
  · (intro w hSw; (try dsimp only at hSw); go_simp; try with_reducible rfl)
  simp only [Act.put, List.setIfInBounds_toArray, List.set_cons_zero, List.set_cons_succ]
  refine take_at (i := 5) 121 (v := ?_) rfl rfl (by kernel_rfl) (by kernel_rfl) (by kernel_rfl) (fun _ _ _ h => h) (by rfl) ?_ hHeld ?_
  rotate_left
  · (intro w hSw; (try dsimp only at hSw); go_simp; try with_reducible rfl)
  simp only [Act.put, List.setIfInBounds_toArray, List.set_cons_zero, List.set_cons_succ]
  refine take_at (i := 6) 122 (v := .int .i64 i) rfl rfl (by kernel_rfl) (by kernel_rfl) (by kernel_rfl) (fun _ _ _ h => h) (by rfl) ?_ hHeld ?_
  · (intro w hSw; have hc9 := (opcell hSw).2.2.1; go_simp; try with_reducible rfl)
  simp only [Act.put, List.setIfInBounds_toArray, List.set_cons_zero, List.set_cons_succ]
  refine run_at (i := 3) rfl (by kernel_rfl) (by rfl) (fun K hK => ?_)
  simp only [List.getElem_toArray, List.getElem_cons_zero, List.getElem_cons_succ]
  go_simp
  first | (go_at_call 12; refine Calls.mono (oDouble (HP1.out.below (Below.refl _ _).drew) (fun b hb => hb.elim) hB1 i) ?_; rintro e w2 ⟨rfl, hP2, hf2⟩; rw [← HZ.out]; have hbx2 := (hf2.ty _ _ _ _ HBX1.out (by decide) (by decide)).trans HBX1.out; have HP2 : Hid _ := hP2; have HF2 : Hid _ := hf2; clear hP2 hf2) | (go_at_call 38; refine Calls.mono (orDouble ((HR1.out.below (Below.refl _ _).drew).rp HF2.out) (fun b hb => hb.elim) (Nat.le_trans hB1 HF2.out.bel.size) i) ?_; rintro e w3 ⟨rfl, hR3, hf3⟩; rw [← HZ.out]; have hbx3 := (hf3.ty _ _ _ _ hbx2 (by decide) (by decide)).trans hbx2; have HR3 : Hid _ := hR3; have HF3 : Hid _ := hf3; clear hR3 hf3)
  go_wp2_with fail
  refine hK.out _ _ (by first | exact HBX1.out | assumption) ?_
  clear hK K
  intro hHeld2
  clear hHeld
  have hHeld := hHeld2
  clear hHeld2
  try simp only [Act.put, List.setIfInBounds_toArray, List.set_cons_zero, List.set_cons_succ]
  refine run_at (i := 7) rfl (by kernel_rfl) (by rfl) (fun K hK => ?_)
  simp only [List.getElem_toArray, List.getElem_cons_zero, List.getElem_cons_succ]
  go_simp
  first | (go_at_call 12; refine Calls.mono (oDouble (HP1.out.below (Below.refl _ _).drew) (fun b hb => hb.elim) hB1 i) ?_; rintro e w2 ⟨rfl, hP2, hf2⟩; rw [← HZ.out]; have hbx2 := (hf2.ty _ _ _ _ HBX1.out (by decide) (by decide)).trans HBX1.out; have HP2 : Hid _ := hP2; have HF2 : Hid _ := hf2; clear hP2 hf2) | (go_at_call 38; refine Calls.mono (orDouble ((HR1.out.below (Below.refl _ _).drew).rp HF2.out) (fun b hb => hb.elim) (Nat.le_trans hB1 HF2.out.bel.size) i) ?_; rintro e w3 ⟨rfl, hR3, hf3⟩; rw [← HZ.out]; have hbx3 := (hf3.ty _ _ _ _ hbx2 (by decide) (by decide)).trans hbx2; have HR3 : Hid _ := hR3; have HF3 : Hid _ := hf3; clear hR3 hf3)
  go_wp2_with fail
  refine hK.out _ _ (by first | exact HBX1.out | assumption) ?_
  clear hK K
  intro hHeld2
  clear hHeld
  have hHeld := hHeld2
  clear hHeld2
  try simp only [Act.put, List.setIfInBounds_toArray, List.set_cons_zero, List.set_cons_succ]
  refine take_at (i := 8) 124 (v := ?_) rfl rfl (by kernel_rfl) (by kernel_rfl) (by kernel_rfl) (fun _ _ _ h => h) (by rfl) ?_ hHeld ?_
  rotate_left
  · (intro w hSw; (try dsimp only at hSw); go_simp; try with_reducible rfl)
  simp only [Act.put, List.setIfInBounds_toArray, List.set_cons_zero, List.set_cons_succ]
  refine take_at (i := 9) 6 (v := ?_) rfl rfl (by kernel_rfl) (by kernel_rfl) (by kernel_rfl) (fun _ _ _ h => h) (by rfl) ?_ hHeld ?_
  rotate_left
  · (intro w hSw; (try dsimp only at hSw); go_simp; try with_reducible rfl)
  simp only [Act.put, List.setIfInBounds_toArray, List.set_cons_zero, List.set_cons_succ]
  refine wpAnyH_done (by kernel_rfl) ?_ _
  refine NoPanic.normal ?_
  go_wp2
  go_ret
  rw [HNX.out]
  have hb09 : Below B w w3 := (HB01.out.drew.trans HF2.out.bel).trans HF3.out.bel
  exact ⟨by simp, HP2.out.pr HF3.out, HR3.out, hb09⟩
set_option maxRecDepth 20000 in
set_option maxHeartbeats 3200000 in
theorem step_6 (hP : On SP B X0 w p R L) (hR : On SR B X0 w q R L) (hB : B ≤ w.heap.size) (i at_ : Int) (m : Nat) (hm : m < 4294967296) (ha0 : -9223372036854775808 ≤ at_) (ha1 : at_ ≤ 9223372036854775807) (ao : Option Addr) (n cap : Nat) (xs : List UInt8) (hn : n = xs.length) (hx : ∀ u, Below B w u → Rd u ao xs) (hnil : ao = none → cap = 0) (hl : n ≤ 140737488351232) (ht : ∀ u, Below B w u → TabZ u) :
    Calls Tryd.prog 23 #[.pointer (some ⟨p, 0, none⟩), .pointer (some ⟨q, 0, none⟩), .agg (opv 6 ao n cap i at_ m)] w fun e w' => e = .returned (.bool true) ∧ On SP B X0 w' p R (nx R L 6 xs i at_ m) ∧ On SR B X0 w' q R (nx R L 6 xs i at_ m) ∧ Below B w w' := by
  subst hn
  have HP : Hid _ := hP
  have HR : Hid _ := hR
  have HX : Hid _ := hx
  have HN : Hid _ := hnil
  have HT : Hid _ := ht
  have HNX : Hid (nx R L 6 xs i at_ m = trnL L i at_ m) := by unfold Hid nx; rw [if_neg (by decide), if_neg (by decide), if_neg (by decide), if_pos rfl]
  clear hP hR hx hnil ht
  go_enter Tryd.func23, Tryd.ntmps23
  go_wp2_with fail
  obtain ⟨w1, hw1⟩ : ∃ w1, w1 = w.alloc (.cells (opv 6 ao xs.length cap i at_ m) tOp) := ⟨_, rfl⟩
  have hb1 : Below w.heap.size w w1 := by rw [hw1]; exact al (Below.refl _ _) _
  have hbx1 : w1.heap[w.heap.size]? = some (.cells (opv 6 ao xs.length cap i at_ m) tOp (0, 0)) := by rw [hw1]; exact heap_alloc_new w _
  rw [← hw1]
  clear hw1
  have hB1 : B ≤ w1.heap.size := Nat.le_trans hB hb1.size
  have hP1 := HP.out.below hb1
  have hR1 := HR.out.below hb1
  have hb01 : Below B w w1 := hb1.mono hB
  have HP1 : Hid _ := hP1
  have HR1 : Hid _ := hR1
  have HB01 : Hid _ := hb01
  obtain ⟨z, hz⟩ : ∃ z, z = trnE L i at_ m := ⟨_, rfl⟩
  have HZ : Hid _ := hz
  have hzz : (z == z) = true := beq_self_eq_true z
  have HBX1 : Hid _ := hbx1
  clear hP1 hR1 hb1 hb01 hz hbx1
  refine wp_region_noPanic ?_
  refine wp_region_held_drew (S := (fun u => u.heap[w.heap.size]? = some (.cells (opv 6 ao xs.length cap i at_ m) tOp (0, 0)))) (by kernel_rfl) (by first | exact HBX1.out | assumption) (fun hHeld => ?_)
  refine take_at (i := 0) 127 (v := ?_) rfl rfl (by kernel_rfl) (by kernel_rfl) (by kernel_rfl) (fun _ _ _ h => h) (by rfl) ?_ hHeld ?_
  rotate_left
  · (intro w hSw; (try dsimp only at hSw); go_simp; try with_reducible rfl)
  simp only [Act.put, List.setIfInBounds_toArray, List.set_cons_zero, List.set_cons_succ]
  refine take_at (i := 1) 128 (v := ?_) rfl rfl (by kernel_rfl) (by kernel_rfl) (by kernel_rfl) (fun _ _ _ h => h) (by rfl) ?_ hHeld ?_
  rotate_left
  · (intro w hSw; (try dsimp only at hSw); go_simp; try with_reducible rfl)
  simp only [Act.put, List.setIfInBounds_toArray, List.set_cons_zero, List.set_cons_succ]
  refine take_at (i := 2) 129 (v := .int .i64 i) rfl rfl (by kernel_rfl) (by kernel_rfl) (by kernel_rfl) (fun _ _ _ h => h) (by rfl) ?_ hHeld ?_
  · (intro w hSw; have hc9 := (opcell hSw).2.2.1; go_simp; try with_reducible rfl)
  simp only [Act.put, List.setIfInBounds_toArray, List.set_cons_zero, List.set_cons_succ]
  refine take_at (i := 3) 130 (v := ?_) rfl rfl (by kernel_rfl) (by kernel_rfl) (by kernel_rfl) (fun _ _ _ h => h) (by rfl) ?_ hHeld ?_
  rotate_left
  · (intro w hSw; (try dsimp only at hSw); go_simp; try with_reducible rfl)
  simp only [Act.put, List.setIfInBounds_toArray, List.set_cons_zero, List.set_cons_succ]
  refine take_at (i := 4) 131 (v := .int .i64 at_) rfl rfl (by kernel_rfl) (by kernel_rfl) (by kernel_rfl) (fun _ _ _ h => h) (by rfl) ?_ hHeld ?_
  · (intro w hSw; have hc9 := (opcell hSw).2.2.2.1; go_simp; try with_reducible rfl)
  simp only [Act.put, List.setIfInBounds_toArray, List.set_cons_zero, List.set_cons_succ]
  refine take_at (i := 5) 132 (v := ?_) rfl rfl (by kernel_rfl) (by kernel_rfl) (by kernel_rfl) (fun _ _ _ h => h) (by rfl) ?_ hHeld ?_
  rotate_left
  · (intro w hSw; (try dsimp only at hSw); go_simp; try with_reducible rfl)
  simp only [Act.put, List.setIfInBounds_toArray, List.set_cons_zero, List.set_cons_succ]
  refine take_at (i := 6) 133 (v := .int .u32 (m : Int)) rfl rfl (by kernel_rfl) (by kernel_rfl) (by kernel_rfl) (fun _ _ _ h => h) (by rfl) ?_ hHeld ?_
  · (intro w hSw; have hc9 := (opcell hSw).2.2.2.2; go_simp; try with_reducible rfl)
  simp only [Act.put, List.setIfInBounds_toArray, List.set_cons_zero, List.set_cons_succ]
  refine take_at (i := 8) 135 (v := ?_) rfl rfl (by kernel_rfl) (by kernel_rfl) (by kernel_rfl) (fun _ _ _ h => h) (by rfl) ?_ hHeld ?_
  rotate_left
  · (intro w hSw; (try dsimp only at hSw); go_simp; try with_reducible rfl)
  simp only [Act.put, List.setIfInBounds_toArray, List.set_cons_zero, List.set_cons_succ]
  refine take_at (i := 9) 136 (v := ?_) rfl rfl (by kernel_rfl) (by kernel_rfl) (by kernel_rfl) (fun _ _ _ h => h) (by rfl) ?_ hHeld ?_
  rotate_left
  · (intro w hSw; (try dsimp only at hSw); go_simp; try with_reducible rfl)
  simp only [Act.put, List.setIfInBounds_toArray, List.set_cons_zero, List.set_cons_succ]
  refine take_at (i := 10) 137 (v := .int .i64 i) rfl rfl (by kernel_rfl) (by kernel_rfl) (by kernel_rfl) (fun _ _ _ h => h) (by rfl) ?_ hHeld ?_
  · (intro w hSw; have hc9 := (opcell hSw).2.2.1; go_simp; try with_reducible rfl)
  simp only [Act.put, List.setIfInBounds_toArray, List.set_cons_zero, List.set_cons_succ]
  refine take_at (i := 11) 138 (v := ?_) rfl rfl (by kernel_rfl) (by kernel_rfl) (by kernel_rfl) (fun _ _ _ h => h) (by rfl) ?_ hHeld ?_
  rotate_left
  · (intro w hSw; (try dsimp only at hSw); go_simp; try with_reducible rfl)
  simp only [Act.put, List.setIfInBounds_toArray, List.set_cons_zero, List.set_cons_succ]
  refine take_at (i := 12) 139 (v := .int .i64 at_) rfl rfl (by kernel_rfl) (by kernel_rfl) (by kernel_rfl) (fun _ _ _ h => h) (by rfl) ?_ hHeld ?_
  · (intro w hSw; have hc9 := (opcell hSw).2.2.2.1; go_simp; try with_reducible rfl)
  simp only [Act.put, List.setIfInBounds_toArray, List.set_cons_zero, List.set_cons_succ]
  refine take_at (i := 13) 140 (v := ?_) rfl rfl (by kernel_rfl) (by kernel_rfl) (by kernel_rfl) (fun _ _ _ h => h) (by rfl) ?_ hHeld ?_
  rotate_left
  · (intro w hSw; (try dsimp only at hSw); go_simp; try with_reducible rfl)
  simp only [Act.put, List.setIfInBounds_toArray, List.set_cons_zero, List.set_cons_succ]
  refine take_at (i := 14) 141 (v := .int .u32 (m : Int)) rfl rfl (by kernel_rfl) (by kernel_rfl) (by kernel_rfl) (fun _ _ _ h => h) (by rfl) ?_ hHeld ?_
  · (intro w hSw; have hc9 := (opcell hSw).2.2.2.2; go_simp; try with_reducible rfl)
  simp only [Act.put, List.setIfInBounds_toArray, List.set_cons_zero, List.set_cons_succ]
  refine run_at (i := 7) rfl (by kernel_rfl) (by rfl) (fun K hK => ?_)
  simp only [List.getElem_toArray, List.getElem_cons_zero, List.getElem_cons_succ]
  go_simp
  first | (go_at_call 13; refine Calls.mono (oTurn (HP1.out.below (Below.refl _ _).drew) (fun b hb => hb.elim) hB1 i at_ m hm ha0 ha1 (HT.out _ HB01.out.drew)) ?_; rintro e w2 ⟨rfl, hP2, hf2⟩; rw [← HZ.out]; have hbx2 := (hf2.ty _ _ _ _ HBX1.out (by decide) (by decide)).trans HBX1.out; have HP2 : Hid _ := hP2; have HF2 : Hid _ := hf2; clear hP2 hf2) | (go_at_call 39; refine Calls.mono (orTurn ((HR1.out.below (Below.refl _ _).drew).rp HF2.out) (fun b hb => hb.elim) (Nat.le_trans hB1 HF2.out.bel.size) i at_ m hm ha0 ha1) ?_; rintro e w3 ⟨rfl, hR3, hf3⟩; rw [← HZ.out]; have hbx3 := (hf3.ty _ _ _ _ hbx2 (by decide) (by decide)).trans hbx2; have HR3 : Hid _ := hR3; have HF3 : Hid _ := hf3; clear hR3 hf3)
  go_wp2_with fail
  refine hK.out _ _ (by first | exact HBX1.out | assumption) ?_
  clear hK K
  intro hHeld2
  clear hHeld
  have hHeld := hHeld2
  clear hHeld2
  try simp only [Act.put, List.setIfInBounds_toArray, List.set_cons_zero, List.set_cons_succ]
  refine run_at (i := 15) rfl (by kernel_rfl) (by rfl) (fun K hK => ?_)
  simp only [List.getElem_toArray, List.getElem_cons_zero, List.getElem_cons_succ]
  go_simp
  first | (go_at_call 13; refine Calls.mono (oTurn (HP1.out.below (Below.refl _ _).drew) (fun b hb => hb.elim) hB1 i at_ m hm ha0 ha1 (HT.out _ HB01.out.drew)) ?_; rintro e w2 ⟨rfl, hP2, hf2⟩; rw [← HZ.out]; have hbx2 := (hf2.ty _ _ _ _ HBX1.out (by decide) (by decide)).trans HBX1.out; have HP2 : Hid _ := hP2; have HF2 : Hid _ := hf2; clear hP2 hf2) | (go_at_call 39; refine Calls.mono (orTurn ((HR1.out.below (Below.refl _ _).drew).rp HF2.out) (fun b hb => hb.elim) (Nat.le_trans hB1 HF2.out.bel.size) i at_ m hm ha0 ha1) ?_; rintro e w3 ⟨rfl, hR3, hf3⟩; rw [← HZ.out]; have hbx3 := (hf3.ty _ _ _ _ hbx2 (by decide) (by decide)).trans hbx2; have HR3 : Hid _ := hR3; have HF3 : Hid _ := hf3; clear hR3 hf3)
  go_wp2_with fail
  refine hK.out _ _ (by first | exact HBX1.out | assumption) ?_
  clear hK K
  intro hHeld2
  clear hHeld
  have hHeld := hHeld2
  clear hHeld2
  try simp only [Act.put, List.setIfInBounds_toArray, List.set_cons_zero, List.set_cons_succ]
  refine take_at (i := 16) 143 (v := ?_) rfl rfl (by kernel_rfl) (by kernel_rfl) (by kernel_rfl) (fun _ _ _ h => h) (by rfl) ?_ hHeld ?_
  rotate_left
  · (intro w hSw; (try dsimp only at hSw); go_simp; try with_reducible rfl)
  simp only [Act.put, List.setIfInBounds_toArray, List.set_cons_zero, List.set_cons_succ]
  refine take_at (i := 17) 6 (v := ?_) rfl rfl (by kernel_rfl) (by kernel_rfl) (by kernel_rfl) (fun _ _ _ h => h) (by rfl) ?_ hHeld ?_
  rotate_left
  · (intro w hSw; (try dsimp only at hSw); go_simp; try with_reducible rfl)
  simp only [Act.put, List.setIfInBounds_toArray, List.set_cons_zero, List.set_cons_succ]
  refine wpAnyH_done (by kernel_rfl) ?_ _
  refine NoPanic.normal ?_
  go_wp2
  go_ret
  rw [HNX.out]
  have hb09 : Below B w w3 := (HB01.out.drew.trans HF2.out.bel).trans HF3.out.bel
  exact ⟨by simp, HP2.out.pr HF3.out, HR3.out, hb09⟩
set_option maxRecDepth 20000 in
set_option maxHeartbeats 3200000 in
theorem step_0 (hP : On SP B X0 w p R L) (hR : On SR B X0 w q R L) (hB : B ≤ w.heap.size) (kd : Int) (h1 : kd ≠ 1) (h2 : kd ≠ 2) (h3 : kd ≠ 3) (h4 : kd ≠ 4) (h5 : kd ≠ 5) (h6 : kd ≠ 6) (i at_ : Int) (m : Nat) (hm : m < 4294967296) (ha0 : -9223372036854775808 ≤ at_) (ha1 : at_ ≤ 9223372036854775807) (ao : Option Addr) (n cap : Nat) (xs : List UInt8) (hn : n = xs.length) (hx : ∀ u, Below B w u → Rd u ao xs) (hnil : ao = none → cap = 0) (hl : n ≤ 140737488351232) (ht : ∀ u, Below B w u → TabZ u) :
    Calls Tryd.prog 23 #[.pointer (some ⟨p, 0, none⟩), .pointer (some ⟨q, 0, none⟩), .agg (opv kd ao n cap i at_ m)] w fun e w' => e = .returned (.bool true) ∧ On SP B X0 w' p R (nx R L kd xs i at_ m) ∧ On SR B X0 w' q R (nx R L kd xs i at_ m) ∧ Below B w w' := by
  subst hn
  have HP : Hid _ := hP
  have HR : Hid _ := hR
  have HX : Hid _ := hx
  have HN : Hid _ := hnil
  have HT : Hid _ := ht
  have HNX : Hid (nx R L kd xs i at_ m = L) := by unfold Hid nx; rw [if_neg h1, if_neg (fun h => h.elim h3 h4), if_neg h5, if_neg h6]
  clear hP hR hx hnil ht
  have e1 : (kd == 1) = false := by simpa using h1
  have e2 : (kd == 2) = false := by simpa using h2
  have e3 : (kd == 3) = false := by simpa using h3
  have e4 : (kd == 4) = false := by simpa using h4
  have e5 : (kd == 5) = false := by simpa using h5
  have e6 : (kd == 6) = false := by simpa using h6
  go_enter Tryd.func23, Tryd.ntmps23
  go_wp2_with fail
  obtain ⟨w1, hw1⟩ : ∃ w1, w1 = w.alloc (.cells (opv kd ao xs.length cap i at_ m) tOp) := ⟨_, rfl⟩
  have hb1 : Below w.heap.size w w1 := by rw [hw1]; exact al (Below.refl _ _) _
  have hbx1 : w1.heap[w.heap.size]? = some (.cells (opv kd ao xs.length cap i at_ m) tOp (0, 0)) := by rw [hw1]; exact heap_alloc_new w _
  rw [← hw1]
  clear hw1
  have hB1 : B ≤ w1.heap.size := Nat.le_trans hB hb1.size
  have hP1 := HP.out.below hb1
  have hR1 := HR.out.below hb1
  have hb01 : Below B w w1 := hb1.mono hB
  obtain ⟨a9, c9, d9⟩ := hR1.rcell
  have HP1 : Hid _ := hP1
  have HR1 : Hid _ := hR1
  have HB01 : Hid _ := hb01
  have HL : Hid (∀ u : World, (∃ n, u = w1.drewN n) → Calls Tryd.prog 9 #[.pointer (some ⟨p, 0, none⟩)] u fun e w' => e = .returned (.int .i64 (L.length : Int)) ∧ w' = u) := fun u ⟨n, hu⟩ => by subst hu; exact oLen (HP1.out.below (below_drewN _ _))
  have hzz : ((L.length : Int) == (L.length : Int)) = true := beq_self_eq_true _
  clear hP1 hR1 hb1 hb01 hbx1
  go_quiet ((go_at_call 9; exact Calls.quiet_of_same (HL.out _ ⟨_, rfl⟩)))
  go_wp2
  go_ret
  rw [HNX.out]
  exact ⟨by first | rfl | simp, HP1.out.below (below_drewN _ _), HR1.out.below (below_drewN _ _), HB01.out.trans ((below_drewN _ _).mono hB1)⟩
end
end Go.Proofs.YtnpcgegcoakbmaaDoor
