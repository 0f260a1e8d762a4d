import Derived.Test.YtmjhbckedagjjabLCb
namespace Go.Proofs.Ytmjhbckedagjjab
set_option linter.unusedVariables false
set_option linter.unusedSimpArgs false
open Go.RowKit
theorem num_t (e : Int) (w : World) : Calls Try.prog 12 #[.int .i64 e] w fun r w' => r = .returned (.int .i64 e) ∧ w' = w := by
  go_enter Try.func12, Try.ntmps12
  go_wp2
  go_ret
  exact ⟨rfl, rfl⟩
theorem u8_add (y : UInt8) (k : Nat) (hk : k < 256) : IntKind.u8.wrap ((y.toNat : Int) + (k : Int)) = (((y + UInt8.ofNat k).toNat : Nat) : Int) := by
  rw [IntKind.wrap_u8, UInt8.toNat_add, UInt8.toNat_ofNat']
  have := y.toNat_lt
  omega
/-- both boxes; H has their blocks -/
structure Pr (w : World) (pv qv : Option Addr) (St : Option (List Seg)) (H : Nat → Prop) : Prop where
  lt : ∀ b, H b → b < w.heap.size
  ex : ∃ F G, PBx w pv St F ∧ RBx w qv St G ∧ (∀ b, F b → G b → False) ∧ (∀ b, F b → H b) ∧ ∀ b, G b → H b
section
variable {w w' : World} {pv qv : Option Addr} {St : Option (List Seg)} {H : Nat → Prop}
theorem Pr.kept (h : Pr w pv qv St H) (hs : w.heap.size ≤ w'.heap.size) (hk : ∀ b, H b → w'.heap[b]? = w.heap[b]?) : Pr w' pv qv St H := by
  obtain ⟨F, G, h1, h2, h3, h4, h5⟩ := h.ex
  exact ⟨fun b hb => Nat.lt_of_lt_of_le (h.lt b hb) hs, F, G, h1.kept hs (fun b hb => hk b (h4 b hb)), h2.kept hs (fun b hb => hk b (h5 b hb)), h3, h4, h5⟩
theorem Pr.below (h : Pr w pv qv St H) (hb : Below w.heap.size w w') : Pr w' pv qv St H := h.kept hb.size (fun b hf => hb.block b (h.lt b hf))
theorem Lft.same (h : Pr w pv qv St H) (hb : Below w.heap.size w w') : Lft (fun u H' => Pr u pv qv St H') H w w' := ⟨⟨H, h.below hb, fun b hb => .inl hb⟩, Chg.of_below hb⟩
end
def nxS (St : Option (List Seg)) (kd i : Int) (xs : Seg) : Option (List Seg) := if kd = 1 then putS St i xs else St
abbrev opv (kd i : Int) (ao : Option Addr) (n cap : Nat) : Array Value := #[.int .i64 kd, .int .i64 i, .slice ao n cap]
abbrev tOp : TypeId := 32
theorem opcell {u : World} {x : Nat} {kd i : Int} {ao : Option Addr} {n cap : Nat} (h : u.heap[x]? = some (.cells (opv kd i ao n cap) tOp (0, 0))) : u.cell? ⟨x, 0, none⟩ = some (.int .i64 kd) ∧ u.cell? ⟨x, 1, none⟩ = some (.int .i64 i) ∧ u.cell? ⟨x, 2, none⟩ = some (.slice ao n cap) := cells3 h
section
variable {w w' : World} {pv qv : Option Addr} {St : Option (List Seg)} {H : Nat → Prop}
set_option maxRecDepth 20000 in
set_option maxHeartbeats 3200000 in
theorem ask_o (h : Pr w pv qv St H) (kd : Int) (h1 : kd ≠ 1) (h2 : kd ≠ 2) (h3 : kd ≠ 3) (h4 : kd ≠ 4) (h5 : kd ≠ 5) (i : Int) (ao : Option Addr) (n cap : Nat) :
    Calls Try.prog 8 #[.pointer pv, .pointer qv, .agg (opv kd i ao n cap)] w fun e w' => e = .returned (.bool true) ∧ Lft (fun u H' => Pr u pv qv St H') H w w' := by
  have HP : Hid _ := h
  clear h
  have g1 : (kd == 1) = false := by simpa using h1
  have g2 : (kd == 2) = false := by simpa using h2
  have g3 : (kd == 3) = false := by simpa using h3
  have g4 : (kd == 4) = false := by simpa using h4
  have g5 : (kd == 5) = false := by simpa using h5
  go_enter Try.func8, Try.ntmps8
  go_wp2
  go_ret
  exact ⟨rfl, Lft.same HP.out (al (Below.refl _ _) _)⟩
set_option maxRecDepth 20000 in
set_option maxHeartbeats 3200000 in
theorem ask_2 (h : Pr w pv qv St H) (i : Int) (ao : Option Addr) (n cap : Nat) :
    Calls Try.prog 8 #[.pointer pv, .pointer qv, .agg (opv 2 i ao n cap)] w fun e w' => e = .returned (.bool true) ∧ Lft (fun u H' => Pr u pv qv St H') H w w' := by
  have HP : Hid _ := h
  clear h
  obtain ⟨F, G, hf, hg, -, -, -⟩ := HP.out.ex
  have HF : Hid (∀ u, Below w.heap.size w u → Calls _ _ _ u _) := fun u hu => pcount (hf.below hu)
  have HG : Hid (∀ u, Below w.heap.size w u → Calls _ _ _ u _) := fun u hu => qcount (hg.below hu)
  clear hf hg
  generalize cntS St = N at *
  have hnn : ((N : Int) == (N : Int)) = true := by simp
  go_enter Try.func8, Try.ntmps8
  go_wp2_with (first | (go_at_call 23; refine Calls.mono (HF.out _ (al (Below.refl _ _) _)) ?_; rintro e w' ⟨rfl, hq⟩; have hq := hq.symm; subst hq) | (go_at_call 24; refine Calls.mono (HG.out _ (al (Below.refl _ _) _)) ?_; rintro e w' ⟨rfl, hq⟩; have hq := hq.symm; subst hq))
  go_ret
  exact ⟨rfl, Lft.same HP.out (al (Below.refl _ _) _)⟩
set_option maxRecDepth 20000 in
set_option maxHeartbeats 3200000 in
theorem ask_4 (h : Pr w pv qv St H) (i : Int) (ao : Option Addr) (n cap : Nat) :
    Calls Try.prog 8 #[.pointer pv, .pointer qv, .agg (opv 4 i ao n cap)] w fun e w' => e = .returned (.bool true) ∧ Lft (fun u H' => Pr u pv qv St H') H w w' := by
  have HP : Hid _ := h
  clear h
  obtain ⟨F, G, hf, hg, -, -, -⟩ := HP.out.ex
  have HF : Hid (∀ u, Below w.heap.size w u → Calls _ _ _ u _) := fun u hu => plength (hf.below hu)
  have HG : Hid (∀ u, Below w.heap.size w u → Calls _ _ _ u _) := fun u hu => qlength (hg.below hu)
  clear hf hg
  generalize decide (0 < lengS St) = lb at *
  generalize lengS St = N at *
  have hnn : ((N : Int) == (N : Int)) = true := by simp
  have hbb : (lb == lb) = true := by simp
  go_enter Try.func8, Try.ntmps8
  go_wp2_with (first | (go_at_call 28; refine Calls.mono (HF.out _ (al (Below.refl _ _) _)) ?_; rintro e w1 ⟨rfl, hb1⟩; have HB1 : Hid _ := below_next (al (Below.refl w.heap.size w) _) hb1; clear hb1) | (go_at_call 29; refine Calls.mono (HG.out _ HB1.out) ?_; rintro e w' ⟨rfl, hq⟩; have hq := hq.symm; subst hq))
  go_ret
  exact ⟨rfl, Lft.same HP.out HB1.out⟩
set_option maxRecDepth 20000 in
set_option maxHeartbeats 3200000 in
theorem ask_5 (h : Pr w pv qv St H) (i : Int) (ao : Option Addr) (n cap : Nat) :
    Calls Try.prog 8 #[.pointer pv, .pointer qv, .agg (opv 5 i ao n cap)] w fun e w' => e = .returned (.bool true) ∧ Lft (fun u H' => Pr u pv qv St H') H w w' := by
  have HP : Hid _ := h
  clear h
  obtain ⟨F, G, hf, hg, -, -, -⟩ := HP.out.ex
  have HF : Hid (∀ u, Below w.heap.size w u → Calls _ _ _ u _) := fun u hu => pwhole (hf.below hu)
  have HG : Hid (∀ u, Below w.heap.size w u → Calls _ _ _ u _) := fun u hu => qwhole (hg.below hu)
  clear hf hg
  generalize hwb : wholeB St = lb at *
  generalize hwx : wholeX St = X at *
  have hbb : (lb == lb) = true := by simp
  go_enter Try.func8, Try.ntmps8
  go_wp2_with (first | (go_at_call 15; refine Calls.mono (HF.out _ (al (Below.refl _ _) _)) ?_; rintro e w1 ⟨u1, he1, hown1, hb1⟩; rw [hwb] at he1; rw [hwx] at hown1; subst he1; obtain ⟨a1, c1, hv1, -, -, -, hrd1, -⟩ := hown1.val; subst hv1; have HR1 : Hid _ := hrd1; have HB1 : Hid (Below w.heap.size w w1) := below_next (al (Below.refl w.heap.size w) _) hb1; clear hb1 hown1 hrd1) | (go_at_call 30; refine Calls.mono (HG.out _ HB1.out) ?_; rintro e w2 ⟨u2, he2, hown2, hb2⟩; rw [hwb] at he2; rw [hwx] at hown2; subst he2; obtain ⟨a2, c2, hv2, -, -, -, hrd2, -⟩ := hown2.val; subst hv2; have cv1 := conv_rd' (Rd.below HR1.out hb2) X.length c1 rfl; have cv2 := conv_rd' hrd2 X.length c2 rfl; have HB2 : Hid (Below w.heap.size w w2) := below_next HB1.out hb2; clear hb2 hown2 hrd2))
  go_ret
  exact ⟨rfl, Lft.same HP.out HB2.out⟩
set_option maxRecDepth 20000 in
set_option maxHeartbeats 3200000 in
theorem ask_3 (h : Pr w pv qv St H) (i : Int) (ao : Option Addr) (n cap : Nat) :
    Calls Try.prog 8 #[.pointer pv, .pointer qv, .agg (opv 3 i ao n cap)] w fun e w' => e = .returned (.bool true) ∧ Lft (fun u H' => Pr u pv qv St H') H w w' := by
  have HP : Hid _ := h
  clear h
  obtain ⟨F, G, hf, hg, -, -, -⟩ := HP.out.ex
  have HF : Hid (∀ u, Below w.heap.size w u → Calls _ _ _ u _) := fun u hu => pgot (hf.below hu)
  have HG : Hid (∀ u, Below w.heap.size w u → Calls _ _ _ u _) := fun u hu => qgot (hg.below hu)
  clear hf hg
  go_enter Try.func8, Try.ntmps8
  go_wp2_with (first | (go_at_call 26; refine Calls.mono (HF.out _ (al (Below.refl _ _) _)) ?_; rintro e w1 ⟨u1, rs, rfl, hown1, hgot1, hlen1, hb1⟩; obtain ⟨a1, c1, hv1, -, -, -, hrd1, -⟩ := OwnR.val hown1; subst hv1; have HR1 : Hid _ := hrd1; have HG1 : Hid _ := hgot1; have HL1 : Hid _ := hlen1; have HB1 : Hid (Below w.heap.size w w1) := below_next (al (Below.refl w.heap.size w) _) hb1; clear hb1 hown1 hrd1 hgot1 hlen1) | (go_at_call 27; refine Calls.mono (HG.out _ HB1.out) ?_; rintro e w2 ⟨u2, ss, rfl, hown2, hgot2, hlen2, hb2⟩; obtain ⟨a2, c2, hv2, -, -, -, hrd2, -⟩ := OwnR.val hown2; subst hv2; have HSM : Hid _ := sameR_t a1 a2 _ _ c1 c2 rs ss w2 rfl rfl (RdR.below HR1.out hb2) hrd2 (by have := HL1.out; omega) (GotIs.uniq HG1.out hgot2); have HB2 : Hid (Below w.heap.size w w2) := below_next HB1.out hb2; clear hb2 hown2 hrd2 hgot2 hlen2) | (go_at_call 25; refine Calls.mono HSM.out ?_; rintro e w3 ⟨rfl, hb3⟩; have HB3 : Hid (Below w.heap.size w w3) := below_next HB2.out hb3; clear hb3))
  go_ret
  exact ⟨rfl, Lft.same HP.out HB3.out⟩
set_option maxRecDepth 20000 in
set_option maxHeartbeats 3200000 in
theorem ask_1 (h : Pr w pv qv St H) (B : Nat) (hB : ∀ b, H b → B ≤ b) (hBw : B ≤ w.heap.size) (i : Int) (ao : Option Addr) (n cap : Nat) (xs : Seg) (hn : n = xs.length) (hx : ∀ u, Below B w u → Rd u ao xs) (hnil : ao = none → cap = 0) (hl : n ≤ 140737488351232) :
    Calls Try.prog 8 #[.pointer pv, .pointer qv, .agg (opv 1 i ao n cap)] w fun e w' => e = .returned (.bool true) ∧ Lft (fun u H' => Pr u pv qv (putS St i xs) H') H w w' := by
  have HP : Hid _ := h
  have HX : Hid _ := hx
  have HNL : Hid _ := hnil
  have HN : Hid _ := hn
  have HHB : Hid _ := hB
  clear h hx hnil hB hn
  go_enter Try.func8, Try.ntmps8
  go_wp2_with fail
  obtain ⟨w1, hw1⟩ : ∃ w1, w1 = w.alloc (.cells (opv 1 i ao n cap) tOp) := ⟨_, rfl⟩
  have hb1 : Below w.heap.size w w1 := by rw [hw1]; exact al (Below.refl _ _) _
  have hbx1 : w1.heap[w.heap.size]? = some (.cells (opv 1 i ao n cap) tOp (0, 0)) := by rw [hw1]; exact heap_alloc_new w _
  rw [← hw1]
  clear hw1
  refine Calls.mono (lend_t ao n cap xs 120 HN.out (HX.out _ (hb1.mono hBw)) HNL.out (by omega)) ?_
  rintro e w2 ⟨g, c, rfl, hnc, hcm, hown2, hb2⟩
  have hgl : w1.heap.size ≤ g ∧ g < w2.heap.size := World.ownsRow.lt hown2 g rfl
  have hbw2 : Below w.heap.size w w2 := below_next hb1 hb2
  have hbx2 := (hb2.block _ (Array.getElem?_eq_some_iff.1 hbx1).1).trans hbx1
  obtain ⟨F, G, hF, hG, hFG, hFH, hGH⟩ := (HP.out.below hbw2).ex
  have hFl : ∀ b, F b → b < w.heap.size := fun b hb => HP.out.lt b (hFH b hb)
  have hGl : ∀ b, G b → b < w.heap.size := fun b hb => HP.out.lt b (hGH b hb)
  have hw12 := hb1.size
  have hxl : w.heap.size < w1.heap.size := (Array.getElem?_eq_some_iff.1 hbx1).1
  have hrd2 : Rd w2 (some ⟨g, 0, none⟩) xs := by
    obtain ⟨a, c', hv, -, -, -, hrd, -⟩ := Own.val hown2
    have h9 := Rd.take hrd xs.length
    rw [List.take_left' rfl] at h9
    simp only [Value.slice.injEq] at hv
    rw [hv.1]
    exact h9
  obtain ⟨y0, y1, y2⟩ := opcell hbx2
  have HF : Hid _ := pput hF i (some ⟨g, 0, none⟩) n c xs HN.out hrd2 (fun h => by cases h) (by omega)
  have HC2 : Hid (∀ u, Chg F w2 u → u.heap[w.heap.size]? = some (.cells (opv 1 i ao n cap) tOp (0, 0)) ∧ RBx u qv St G ∧ Own u w1.heap.size (.slice (some ⟨g, 0, none⟩) (n + 4) c) (xs ++ mk4 120 4) ∧ Below B w u) := fun u hu => by
    refine ⟨(hu.block _ (by omega) (fun hf => by have := hFl _ hf; omega)).trans hbx2, hG.kept hu.size (fun b hb => hu.block b (by have := hGl b hb; have := hbw2.size; omega) (fun hf => hFG b hf hb)), Own.keptb hown2 (fun b e => ?_), (hbw2.mono hBw).trans (hu.below (fun b hb => HHB.out b (hFH b hb)) (Nat.le_trans hBw hbw2.size))⟩
    have hbg : b = g := (Option.some.inj e).symm
    subst hbg
    exact hu.block b hgl.2 (fun hf => by have := hFl b hf; omega)
  obtain ⟨Er, hEr⟩ : ∃ Er, Er = putE St i xs := ⟨_, rfl⟩
  rw [← hEr] at HF
  have HER : Hid _ := hEr
  have heq : (Er == Er) = true := by simp
  have HGL : Hid _ := hgl
  have HNC : Hid _ := hnc
  have HFH : Hid _ := hFH
  have HGH : Hid _ := hGH
  have HFL : Hid _ := hFl
  have HGLL : Hid _ := hGl
  have HFG : Hid _ := hFG
  have HBW2 : Hid _ := hbw2
  have HLT : Hid (w.heap.size < w1.heap.size) := hxl
  have hncN : n ≤ c := by omega
  clear hEr hgl hnc hFH hGH hFl hGl hFG hbw2 hb1 hb2 hbx1 hbx2 hown2 hrd2 hF hG hw12 hxl hcm
  go_wp2_with fail
  refine Calls.mono HF.out ?_
  rintro e w3 ⟨rfl, hL3⟩
  obtain ⟨hbx3, hG3, hown3, hb3⟩ := HC2.out _ hL3.chg
  obtain ⟨z0, z1, z2⟩ := opcell hbx3
  have HQ : Hid _ := qput hG3 i ao n cap xs HN.out (HX.out _ hb3) HNL.out (by omega)
  rw [← HER.out] at HQ
  have HL3 : Hid _ := hL3
  have HBX3 : Hid _ := hbx3
  have HO3 : Hid _ := hown3
  have HB3 : Hid _ := hb3
  clear hL3 hbx3 hG3 hown3 hb3 HF HC2 y0 y1 y2
  go_wp2_with fail
  refine Calls.mono HQ.out ?_
  rintro e w4 ⟨rfl, hL4⟩
  have hs23 := HL3.out.chg.size
  have hG4 : ∀ b, w.heap.size ≤ b → b < w3.heap.size → w4.heap[b]? = w3.heap[b]? := fun b h1 h2 => hL4.chg.block b h2 (fun hf => by have := HGLL.out b hf; omega)
  have hbx4 := (hG4 _ (Nat.le_refl _) (Array.getElem?_eq_some_iff.1 HBX3.out).1).trans HBX3.out
  obtain ⟨z0, z1, z2⟩ := opcell hbx4
  have hown4 : Own w4 w1.heap.size (.slice (some ⟨g, 0, none⟩) (n + 4) c) (xs ++ mk4 120 4) := Own.keptb HO3.out (fun b e => by
    have h9 := World.ownsRow.lt HO3.out b e
    exact hG4 b (by have := HLT.out; omega) h9.2)
  have hb4 : Below B w w4 := HB3.out.trans (hL4.chg.below (fun b hb => HHB.out b (HGH.out b hb)) (Nat.le_trans hBw HB3.out.size))
  have HK4 : Hid _ := kept_t g n c xs 120 w1.heap.size HN.out hown4 HNC.out ao cap (HX.out _ hb4) (by omega)
  have HL4 : Hid _ := hL4
  have HO4 : Hid _ := hown4
  clear hL4 hs23 hG4 hbx4 hown4 hb4 HQ
  have HNUM : Hid (Calls _ _ _ w4 _) := num_t Er w4
  obtain ⟨M4, hM4⟩ : ∃ M4, M4 = n + 4 := ⟨_, rfl⟩
  have HM4 : Hid _ := hM4
  clear hM4
  go_wp2_with (first | (go_at_call 12; refine Calls.mono HNUM.out ?_; rintro e w' ⟨rfl, hq⟩; have hq := hq.symm; subst hq) | (go_at_call 22; refine Calls.mono HK4.out ?_; rintro e w5 ⟨rfl, hb5⟩; have HB5 : Hid _ := hb5; clear hb5))
  go_loopw [11] (fun j wr => ∃ (k : Nat) (ys : List UInt8), k ≤ n ∧ j = .int .i64 (k : Int) ∧ Hid (ys.length = M4) ∧ Own wr w1.heap.size (.slice (some ⟨g, 0, none⟩) M4 c) ys ∧ w5.grownBy wr (some g)) (fun j _ => n - (intOf j).toNat)
  case atStart =>
    refine ⟨0, xs ++ mk4 120 4, Nat.zero_le _, rfl, ?_, ?_, World.grownBy.refl _ _⟩
    · unfold Hid; rw [HM4.out, HN.out]; simp [mk4]
    · rw [HM4.out]; exact Own.below HO4.out HB5.out
  case round =>
    obtain ⟨k, ys, hk, rfl, HY, hok, hgk⟩ := hrel
    by_cases hlt : k < n
    · have hltI : (k : Int) < (n : Int) := by omega
      have hk0 : (0 : Int) ≤ (k : Int) := by omega
      have hkw : IntKind.i64.wrap ((k : Int) + 1) = ((k + 1 : Nat) : Int) := by rw [IntKind.wrap_i64]; omega
      have hok' := hok
      rw [← HY.out] at hok'
      have hky : k < ys.length := by rw [HY.out, HM4.out]; omega
      have hcell : wr.cell? ⟨g, k, none⟩ = some (.int .u8 (ys[k].toNat : Int)) := by
        rw [World.ownsRow.cellAt hok' k (by omega), bv_get _ k hky]
      have hfz := World.ownsRow.frozenAt hok' k
      obtain ⟨y, hy⟩ : ∃ y, y = ys[k] := ⟨_, rfl⟩
      rw [← hy] at hcell
      have hwy : IntKind.u8.wrap ((y.toNat : Int) + 9) = (((y + 9).toNat : Nat) : Int) := u8_add y 9 (by omega)
      obtain ⟨z, hz⟩ : ∃ z : Nat, z = (y + 9).toNat := ⟨_, rfl⟩
      rw [← hz] at hwy
      have hst := own_set hok' k (y + 9) (z : Int) (by rw [hz])
      rw [HY.out] at hst
      have HST : Hid _ := hst
      have HG : Hid _ := hgk
      have HY2 : Hid ((ys.set k (y + 9)).length = M4) := by unfold Hid; rw [List.length_set]; exact HY.out
      clear hok' hst hok hgk hy hz
      go_wp2
      go_roundw
      case rel => exact ⟨k + 1, _, by omega, by go_num, HY2, HST.out.1, HG.out.trans' HST.out.2⟩
      case measure => simp [intOf]; omega
    · have hltI : ¬ (k : Int) < (n : Int) := by omega
      have HG : Hid _ := hgk
      clear hok hgk
      go_wp2
      go_ret
      obtain ⟨F', hF', hFn⟩ := HL3.out.ex
      obtain ⟨G', hG', hGn⟩ := HL4.out.ex
      have s12 := HBW2.out.size
      have s23 := HL3.out.chg.size
      have s34 := HL4.out.chg.size
      have s45 := HB5.out.size
      have s56 := HG.out.size
      have hlt1 := HLT.out
      have hgl := HGL.out
      have hF'g : ∀ b, F' b → b ≠ g := fun b hb e => by
        rcases hFn b hb with h9 | h9
        · have := HFL.out b h9; omega
        · omega
      have hG'g : ∀ b, G' b → b ≠ g := fun b hb e => by
        rcases hGn b hb with h9 | h9
        · have := HGLL.out b h9; omega
        · omega
      have hFG' : ∀ b, F' b → G' b → False := fun b hf hg => by
        have hfl := hF'.lt b hf
        rcases hFn b hf with h8 | h8
        · rcases hGn b hg with h9 | h9
          · exact HFG.out b h8 h9
          · have := HFL.out b h8; omega
        · rcases hGn b hg with h9 | h9
          · have := HGLL.out b h9; omega
          · omega
      have blk : ∀ b, b < w4.heap.size → b ≠ g → wr.heap[b]? = w4.heap[b]? := fun b h1 h2 => (HG.out.block b (by omega) (fun e => h2 (by cases e; rfl))).trans (HB5.out.block b h1)
      refine ⟨rfl, ⟨fun b => F' b ∨ G' b, ⟨fun b hb => ?_, F', G', hF'.kept (by omega) (fun b hb => ?_), hG'.kept (by omega) (fun b hb => blk b (hG'.lt b hb) (hG'g b hb)), hFG', fun b hb => .inl hb, fun b hb => .inr hb⟩, fun b hb => ?_⟩, ?_⟩
      · rcases hb with hb | hb
        · have := hF'.lt b hb; omega
        · have := hG'.lt b hb; omega
      · have hl := hF'.lt b hb
        refine (blk b (by omega) (hF'g b hb)).trans (HL4.out.chg.block b hl (fun hg => ?_))
        rcases hFn b hb with h8 | h8
        · exact HFG.out b h8 hg
        · have := HGLL.out b hg; omega
      · rcases hb with hb | hb
        · rcases hFn b hb with h8 | h8
          · exact .inl (HFH.out b h8)
          · exact .inr (by omega)
        · rcases hGn b hb with h8 | h8
          · exact .inl (HGH.out b h8)
          · exact .inr (by omega)
      · have t1 : Chg H w w2 := Chg.of_below HBW2.out
        have t2 : Chg H w w3 := t1.trans HL3.out.chg (fun b hb => .inl (HFH.out b hb))
        have t3 : Chg H w w4 := t2.trans HL4.out.chg (fun b hb => .inl (HGH.out b hb))
        have t4 : Chg H w w5 := t3.trans (Chg.of_below (F := fun _ => False) HB5.out) (fun b hb => hb.elim)
        exact t4.trans (Chg.of_grown HG.out (F := fun b => b = g) (fun b e => (Option.some.inj e).symm)) (fun b e => .inr (by omega))
theorem ask_t (h : Pr w pv qv St H) (B : Nat) (hB : ∀ b, H b → B ≤ b) (hBw : B ≤ w.heap.size) (kd i : Int) (ao : Option Addr) (n cap : Nat) (xs : Seg) (hn : n = xs.length) (hx : ∀ u, Below B w u → Rd u ao xs) (hnil : ao = none → cap = 0) (hl : n ≤ 140737488351232) :
    Calls Try.prog 8 #[.pointer pv, .pointer qv, .agg (opv kd i ao n cap)] w fun e w' => e = .returned (.bool true) ∧ Lft (fun u H' => Pr u pv qv (nxS St kd i xs) H') H w w' := by
  by_cases h1 : kd = 1
  · subst h1
    exact ask_1 h B hB hBw i ao n cap xs hn hx hnil hl
  · have e : nxS St kd i xs = St := if_neg h1
    rw [e]
    by_cases h2 : kd = 2
    · subst h2; exact ask_2 h i ao n cap
    by_cases h3 : kd = 3
    · subst h3; exact ask_3 h i ao n cap
    by_cases h4 : kd = 4
    · subst h4; exact ask_4 h i ao n cap
    by_cases h5 : kd = 5
    · subst h5; exact ask_5 h i ao n cap
    exact ask_o h kd h1 h2 h3 h4 h5 i ao n cap
set_option maxRecDepth 20000 in
set_option maxHeartbeats 1600000 in
theorem begin_t (r : Int) (w : World) : Calls Try.prog 7 #[.int .i64 r] w fun e w' => ∃ pv qv H, e = .returned (.tuple #[.pointer pv, .pointer qv, .bool true]) ∧ Pr w' pv qv (newSt r) H ∧ (∀ b, H b → w.heap.size ≤ b) ∧ Below w.heap.size w w' := by
  have HP : Hid _ := pnew r w
  have HQ : Hid (∀ u, Calls _ _ _ u _) := fun u => qnew r u
  obtain ⟨Er, hEr⟩ : ∃ Er, Er = newEr r := ⟨_, rfl⟩
  rw [← hEr] at HP HQ
  have heq : (Er == Er) = true := by simp
  have HNUM : Hid (∀ u : World, Calls _ _ _ u _) := fun u => num_t Er u
  clear hEr
  go_enter Try.func7, Try.ntmps7
  go_wp2_with fail
  refine Calls.mono HP.out ?_
  rintro e w1 ⟨pv, F, rfl, hpn, hP, hF, hb1⟩
  have HP1 : Hid _ := hP
  have HPN : Hid _ := hpn
  have HF : Hid _ := hF
  have HB1 : Hid _ := hb1
  clear hpn hP hF hb1 HP
  go_wp2_with fail
  refine Calls.mono (HQ.out w1) ?_
  rintro e w2 ⟨qv, G, rfl, hqn, hQ, hG, hb2⟩
  have HQ2 : Hid _ := hQ
  have HG : Hid _ := hG
  have HB2 : Hid _ := hb2
  have hnn : (pv.isNone == qv.isNone) = true := by
    rcases pv with _ | pa
    · rcases qv with _ | qa
      · rfl
      · exact absurd (hqn.2 (HPN.out.1 rfl)) (by simp)
    · rcases qv with _ | qa
      · exact absurd (HPN.out.2 (hqn.1 rfl)) (by simp)
      · rfl
  have q1 : ∀ (u : World), (binOp .eql 25 (.pointer pv) (.pointer none)).run Try.prog u = .ok (.bool pv.isNone) u := fun u => by
    rcases pv with _ | pa <;> go_simp
  have q2 : ∀ (u : World), (binOp .eql 26 (.pointer qv) (.pointer none)).run Try.prog u = .ok (.bool qv.isNone) u := fun u => by
    rcases qv with _ | qa <;> go_simp
  clear hqn hQ hG hb2
  go_wp2_with (go_at_call 12; refine Calls.mono (HNUM.out _) ?_; rintro e w' ⟨rfl, hq⟩; have hq := hq.symm; subst hq)
  refine bodyPost_ret (results_tmp3 rfl _ _ _) rfl ?_
  refine ⟨pv, qv, fun b => F b ∨ G b, ?_, ⟨fun b hb => ?_, F, G, HP1.out.below HB2.out, HQ2.out, fun b hf hg => ?_, fun b hb => .inl hb, fun b hb => .inr hb⟩, fun b hb => ?_, below_next HB1.out HB2.out⟩
  · first | rfl | (rw [hnn]; rfl) | (simp [hnn])
  · rcases hb with hb | hb
    · exact Nat.lt_of_lt_of_le (HP1.out.lt b hb) HB2.out.size
    · exact HQ2.out.lt b hb
  · have := HP1.out.lt b hf
    have := HG.out b hg
    omega
  · rcases hb with hb | hb
    · exact HF.out b hb
    · exact Nat.le_trans HB1.out.size (HG.out b hb)
end
end Go.Proofs.Ytmjhbckedagjjab
