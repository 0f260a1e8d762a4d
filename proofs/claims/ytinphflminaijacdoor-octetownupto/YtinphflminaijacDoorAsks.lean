import Derived.Test.YtinphflminaijacDoorFam
import Derived.Test.YtinphflminaijacDoorBackP
import Derived.Test.YtinphflminaijacDoorRNew
import Derived.Test.YtinphflminaijacDoorAppB
import Derived.Test.YtinphflminaijacDoorUnseal
import Derived.Test.YtinphflminaijacDoorTold
import Derived.Test.YtinphflminaijacDoorRefSeal
import Derived.Test.YtinphflminaijacDoorBurst
namespace Go.Proofs.YtinphflminaijacDoor
set_option linter.unusedVariables false
set_option linter.unusedSimpArgs false
open Go.RowKit
/-- what asks answers -/
def ansL (xs : List UInt8) (n : Nat) (at_ : Int) (mask : Nat) : List (List UInt8) := [xs ++ dg n, xs ++ (dg xs.length ++ xs), xs ++ sealL xs, xs, bst at_ mask xs 32, xs, xs]
def askF (j : Nat) : Nat := if j = 0 then 1 else if j = 1 then 2 else if j = 2 then 3 else if j = 3 then 0 else j
theorem askF_inj : ∀ i, i < 7 → ∀ j, j < 7 → askF i = askF j → i = j := by decide
theorem rTake_whole (xs : List UInt8) : rTake (xs.length : Int) xs 0 = (xs, xs.length, 0) := by
  unfold rTake
  rw [if_pos rfl, if_neg (by omega), if_neg (by omega), Int.toNat_natCast, List.take_length]
theorem take_w {p : Nat} {ao : Option Addr} {cap : Nat} {xs : List UInt8} (w : World) (h : RdrAt w p ao cap xs 0 0) :
    Calls Tryd.prog 23 #[.pointer (some ⟨p, 0, none⟩), .int .i64 (xs.length : Int)] w fun e w' => ∃ v, e = .returned v ∧ Own w' w.heap.size v xs ∧ w.grownBy w' (some p) := by
  refine (take_r _ w h).mono ?_
  rw [List.drop_zero, rTake_whole]
  rintro e w' ⟨v, he, ho, -, hg⟩
  exact ⟨v, he, ho, hg⟩
theorem bytes_w {p : Nat} {ao : Option Addr} {cap : Nat} {xs : List UInt8} (hl : xs.length ≤ 1048576) (w : World) (h : RdrAt w p ao cap ([] ++ (dg xs.length ++ xs)) 0 0) :
    Calls Tryd.prog 22 #[.pointer (some ⟨p, 0, none⟩), .int .i64 (xs.length : Int)] w fun e w' => ∃ v, e = .returned v ∧ Own w' w.heap.size v xs ∧ w.grownBy w' (some p) := by
  refine (bytes_r _ (by omega) w h).mono ?_
  have e : rBytes (xs.length : Int) (([] ++ (dg xs.length ++ xs)).drop 0) 0 = (xs, (dg xs.length ++ xs).length, 0) := by
    have h1 := rBytes_dg xs (by omega) []
    rw [List.append_nil] at h1
    simpa using h1
  rw [e]
  rintro e w' ⟨v, he, ho, -, hg⟩
  exact ⟨v, he, ho, hg⟩
theorem own_shape {w : World} {B : Nat} {v : Value} {xs : List UInt8} (h : Own w B v xs) : ∃ b m d, v = .slice b m d := by
  obtain ⟨a, c, hv, -⟩ := h.val
  exact ⟨a, _, c, hv⟩
theorem bel_farA {W w w' : World} {p : Nat} (hb : Below W.heap.size W w) (hg : w.grownBy w' (some p)) (hp : W.heap.size ≤ p) : Below W.heap.size W w' :=
  hb.grown hg hb.size (fun k hk => by cases hk; exact hp)
set_option maxRecDepth 20000 in
set_option maxHeartbeats 3200000 in
theorem asks_any (ao : Option Addr) (cap : Nat) (xs : List UInt8) (n : Nat) (at_ : Int) (mask : Nat) (w : World) (hx : Rd w ao xs) (hnil : ao = none → cap = 0) (hl : xs.length ≤ 1048576) (hn : n < 18446744073709551616) (ha0 : -9223372036854775808 ≤ at_) (ha1 : at_ ≤ 9223372036854775807) (hm : (mask : Int) ≤ 4294967295) (ht : TabOk w) :
    Calls Tryd.prog 14 #[.slice ao xs.length cap, .int .u64 n, .int .i64 at_, .int .u32 mask] w fun e w' => ∃ (g : Nat) (ps : List (Value × List UInt8)), e = .returned (.slice (some ⟨g, 0, none⟩) 7 7) ∧ ps.map (·.2) = ansL xs n at_ mask ∧ (∀ j (h : j < ps.length), w'.cell? ⟨g, j, none⟩ = some ps[j].1) ∧ Fam w' w.heap.size (ps.map fun p => bRow p.1 p.2) ∧ Below w.heap.size w w' := by
  have HN : Hid (ao = none → cap = 0) := hnil
  have Hn : Hid (n < 18446744073709551616) := hn
  have HA : Hid (-9223372036854775808 ≤ at_ ∧ at_ ≤ 9223372036854775807 ∧ (mask : Int) ≤ 4294967295) := ⟨ha0, ha1, hm⟩
  clear hnil hn ha0 ha1 hm
  go_enter Tryd.func14, Tryd.ntmps14
  go_wp2_with fail
  refine (refSeal_n ao _ cap xs rfl w hx HN.out (by omega)).mono ?_
  rintro e w1 ⟨v1, rfl, ho1, hb1⟩
  obtain ⟨a1, c1, hv1, hlc1, hcm1, -, hr1, -⟩ := ho1.val
  rw [len_seal] at hv1 hlc1
  subst hv1
  simp only [maxLen] at hcm1
  clear ho1
  have ht1 := ht.below hb1
  go_wp2_with fail
  refine (unseal_n a1 _ c1 (xs ++ sealL xs) (len_seal _ _).symm xs 0 (unS_seal xs) w1 hr1 hlc1 hcm1 (by omega) ht1).mono ?_
  rintro e w2 ⟨vu, rfl, hou, hb2⟩
  have hb02 := below_next hb1 hb2
  have hU2 : Fam w2 w.heap.size [bRow vu xs] := Fam.one (bRow_at.2 (hou.base hb1.size))
  clear hou hr1 hlc1 hcm1 ht1
  have hx2 := hx.below hb02
  go_wp2_with fail
  refine (refAppendBytes_n none 0 0 [] rfl ao _ cap xs rfl w2 (Rd.nil _ _) hx2 (fun _ => rfl) HN.out (by omega)).mono ?_
  rintro e w3 ⟨v3, rfl, ho3, hb3⟩
  obtain ⟨a3, c3, rfl, -, -, hn3, hr3, -⟩ := ho3.val
  have HN3 : Hid (a3 = none → c3 = 0) := hn3
  have hd3 := dg_len xs.length (by omega)
  have hl3 : ([] ++ (dg xs.length ++ xs)).length ≤ 140737488355328 := by simp only [List.length_append, List.length_nil]; omega
  clear hn3 ho3
  have hb03 := below_next hb02 hb3
  go_wp2_with fail
  refine (new_r a3 _ c3 ([] ++ (dg xs.length ++ xs)) (by simp) w3 hr3 HN3.out (by first | exact hl3 | (simp at hl3 ⊢; omega))).mono ?_
  rintro e w4 ⟨pr, aor, capr, rfl, hrr4, hb4, hpr, -⟩
  have hprw : pr < w4.heap.size := World.block_lt_of_cell? w4 _ hrr4.c0
  have hb04 := below_next hb03 hb4
  have hx4 := hx.below hb04
  clear hr3 HN3 hl3
  go_wp2_with fail
  refine (new_r ao _ cap xs rfl w4 hx4 HN.out (by omega)).mono ?_
  rintro e w5 ⟨ps, aos, caps, rfl, hrs5, hb5, hps, haos⟩
  have hpsw : ps < w5.heap.size := World.block_lt_of_cell? w5 _ hrs5.c0
  have hrr5 := hrr4.below hb5
  have hb05 := below_next hb04 hb5
  have hx5 := hx.below hb05
  clear hx4 hrr4
  go_wp2_with fail
  refine (appendNumber_n ao _ cap xs rfl n w5 hx5 HN.out (by omega) Hn.out).mono ?_
  rintro e w6 ⟨v6, rfl, ho6, hb6⟩
  have hF6 : Fam w6 w5.heap.size [bRow v6 (xs ++ dg n)] := Fam.one (bRow_at.2 ho6)
  have hb06 := below_next hb05 hb6
  have hx6 := hx.below hb06
  clear ho6 hx5
  go_wp2_with fail
  refine (appendBytes_n ao _ cap xs rfl ao _ cap xs rfl w6 hx6 hx6 HN.out HN.out (by omega)).mono ?_
  rintro e w7 ⟨v7, rfl, ho7, hb7⟩
  have hF7 := hF6.push hb7 hb6.size _ (bRow_at.2 ho7)
  have hb07 := below_next hb06 hb7
  have hx7 := hx.below hb07
  have ht7 := ht.below hb07
  clear ho7 hx6 hF6
  go_wp2_with fail
  refine (seal_n ao _ cap xs rfl w7 hx7 HN.out (by omega) ht7).mono ?_
  rintro e w8 ⟨v8, rfl, ho8, hb8⟩
  have hb57 := below_next hb6 hb7
  have hF8 := hF7.push hb8 hb57.size _ (bRow_at.2 ho8)
  have hb08 := below_next hb07 hb8
  have hx8 := hx.below hb08
  clear ho8 hx7 hF7 ht7
  go_wp2_with fail
  refine (burst_n ao _ cap xs rfl at_ mask w8 hx8 HN.out (by omega) HA.out.1 HA.out.2.1 HA.out.2.2).mono ?_
  rintro e w9 ⟨v9, rfl, ho9, hb9⟩
  have hb58 := below_next hb57 hb8
  have hF9 := hF8.push hb9 hb58.size _ (bRow_at.2 ho9)
  have hb09 := below_next hb08 hb9
  have hb59 := below_next hb58 hb9
  have hrr9 := hrr5.below hb59
  have hrs9 := hrs5.below hb59
  have hU9 := hU2.below (below_next (below_next (below_next hb3 hb4) hb5) hb59)
  clear ho9 hx8 hF8 hx hrr5 hrs5
  go_wp2_with fail
  refine (bytes_w hl w9 hrr9).mono ?_
  rintro e w10 ⟨v10, rfl, ho10, hg10⟩
  have hz1 := hb1.size
  have hz2 := hb2.size
  have hz3 := hb3.size
  have hz4 := hb4.size
  have hz5 := hb5.size
  have hz59 := hb59.size
  have hU10 := hU9.far hg10 (fun j hj e => by have := hU2.lt j hj pr e; omega)
  have hF10 := (hF9.far hg10 (hF9.ge (by omega))).cat hF9.lt (Fam.one (bRow_at.2 ho10)) hz59
  have hb010 := bel_farA hb09 hg10 (by omega)
  have hrs10 := hrs9.grown hg10 (by simp; omega) (fun a ha => by have := haos a ha; simp; omega)
  clear hrr9 hrs9 ho10 hU9
  go_wp2_with fail
  refine (take_w w10 hrs10).mono ?_
  rintro e w11 ⟨v11, rfl, ho11, hg11⟩
  have hz10 := hg10.size
  have hU11 := hU10.far hg11 (fun j hj e => by have := hU2.lt j hj ps e; omega)
  have hF11 := (hF10.far hg11 (hF10.ge (by omega))).cat hF10.lt (Fam.one (bRow_at.2 ho11)) (by omega)
  have hb011 := bel_farA hb010 hg11 (by omega)
  have hz11 := hg11.size
  have hA11 := hU11.cat (lo := w5.heap.size) (fun j hj g e => by have := hU2.lt j hj g e; omega) hF11 (by omega)
  have HP : Hid (Fam w11 w.heap.size [bRow v6 (xs ++ dg n), bRow v7 (xs ++ (dg xs.length ++ xs)), bRow v8 (xs ++ sealL xs), bRow vu xs, bRow v9 (bst at_ mask xs 32), bRow v10 xs, bRow v11 xs]) := by
    refine hA11.perm askF _ (fun j hj => ?_) (fun i j hi hj => askF_inj i hi j hj)
    have hj' : j = 0 ∨ j = 1 ∨ j = 2 ∨ j = 3 ∨ j = 4 ∨ j = 5 ∨ j = 6 := by simp at hj; omega
    rcases hj' with rfl | rfl | rfl | rfl | rfl | rfl | rfl
    all_goals exact ⟨by simp [askF], rfl⟩
  clear hrs10 hU10 hF10 hU11 hF11 hA11 hF9 hU2 ho11
  clear hb1 hb2 hb3 hb4 hb5 hb6 hb7 hb8 hb9 hb02 hb03 hb04 hb05 hb06 hb07 hb08 hb09 hb57 hb58 hb59 hb010 hz1 hz2 hz3 hz4 hz5 hz59 hz10 hz11 hg10 hg11 haos hx2 hd3
  obtain ⟨bv6, mv6, dv6, rfl⟩ := own_shape (bRow_at.1 (HP.out.own 0 (by simp)))
  obtain ⟨bv7, mv7, dv7, rfl⟩ := own_shape (bRow_at.1 (HP.out.own 1 (by simp)))
  obtain ⟨bv8, mv8, dv8, rfl⟩ := own_shape (bRow_at.1 (HP.out.own 2 (by simp)))
  obtain ⟨bvu, mvu, dvu, rfl⟩ := own_shape (bRow_at.1 (HP.out.own 3 (by simp)))
  obtain ⟨bv9, mv9, dv9, rfl⟩ := own_shape (bRow_at.1 (HP.out.own 4 (by simp)))
  obtain ⟨bv10, mv10, dv10, rfl⟩ := own_shape (bRow_at.1 (HP.out.own 5 (by simp)))
  obtain ⟨bv11, mv11, dv11, rfl⟩ := own_shape (bRow_at.1 (HP.out.own 6 (by simp)))
  go_wp2
  go_ret
  refine ⟨w11.heap.size, [(.slice bv6 mv6 dv6, xs ++ dg n), (.slice bv7 mv7 dv7, xs ++ (dg xs.length ++ xs)), (.slice bv8 mv8 dv8, xs ++ sealL xs), (.slice bvu mvu dvu, xs), (.slice bv9 mv9 dv9, bst at_ mask xs 32), (.slice bv10 mv10 dv10, xs), (.slice bv11 mv11 dv11, xs)], rfl, rfl, fun j hj => ?_, HP.out.below ((Below.refl _ _).alloc (Nat.le_refl _) _), hb011.alloc hb011.size _⟩
  have hj' : j = 0 ∨ j = 1 ∨ j = 2 ∨ j = 3 ∨ j = 4 ∨ j = 5 ∨ j = 6 := by simp at hj; omega
  rcases hj' with rfl | rfl | rfl | rfl | rfl | rfl | rfl
  all_goals simp
end Go.Proofs.YtinphflminaijacDoor
