import Derived.Test.YtkjdeeamckmebaaDoorUGs
namespace Go.Proofs.YtkjdeeamckmebaaDoor
set_option linter.unusedVariables false
set_option linter.unusedSimpArgs false
open Go.RowKit
/-- Encode of a unit that is one -/
theorem encV (k e s p i c : Int) (da : Option Addr) (dn dc : Nat) (cd : Int) (ga : Option Addr) (gn gc : Nat) (ds : List UInt8) (l : List Rg) (hdn : dn = ds.length) (hgn : gn = l.length) (hv : validV ⟨k, e, s, p, i, c, ds, cd, l⟩) (w : World) (hd : Rd w da ds) (hdnil : da = none → dc = 0) (hx : RdR w ga l) (hl : gn ≤ 8796093022208) (hc : gn ≤ gc) (ht : TabOk w) :
    Calls Tryd.prog 13 #[.agg #[.int .i64 k, .int .u64 e, .int .u64 s, .int .i64 p, .int .i64 i, .int .i64 c, .slice da dn dc, .int .i64 cd, .slice ga gn gc]] w fun er w' => EncOwn (encT ⟨k, e, s, p, i, c, ds, cd, l⟩) w er w' := by
  have hv' : validR k e s p i c dn cd gn l := by rw [hdn, hgn]; exact hv
  have hv2 := hv'
  obtain ⟨⟨hE, hS⟩, hk⟩ := hv2
  unfold nameOk at hE hS
  obtain ⟨E, rfl⟩ : ∃ E : Nat, e = (E : Int) := ⟨e.toNat, by omega⟩
  obtain ⟨S, rfl⟩ : ∃ S : Nat, s = (S : Int) := ⟨s.toNat, by omega⟩
  rcases hk with ⟨rfl, h⟩ | ⟨rfl, h⟩ | ⟨rfl, h⟩
  · obtain ⟨C, rfl⟩ : ∃ C : Nat, c = (C : Int) := ⟨c.toNat, by omega⟩
    obtain ⟨I, rfl⟩ : ∃ I : Nat, i = (I : Int) := ⟨i.toNat, by omega⟩
    obtain ⟨Q, rfl⟩ : ∃ Q : Nat, p = (Q : Int) := ⟨p.toNat, by omega⟩
    have h9 := enc_1 E S Q I C da dn dc ds cd ga gn gc l w hv' hdn hd hdnil hgn hx hl hc ht
    have e9 : encT ⟨1, (E : Int), (S : Int), (Q : Int), (I : Int), (C : Int), ds, cd, l⟩ = dgs [1, E, S] ++ dgs [Q, I, C] ++ (dg ds.length ++ ds) := by unfold encT; simp
    rw [e9]
    exact h9
  · obtain ⟨CD, rfl⟩ : ∃ CD : Nat, cd = (CD : Int) := ⟨cd.toNat, by omega⟩
    have h9 := enc_2 E S p i c da dn dc CD ga gn gc l w hv' hgn hx hl hc ht
    have e9 : encT ⟨2, (E : Int), (S : Int), p, i, c, ds, (CD : Int), l⟩ = repX (dgs [2, E, S]) CD gn l := by unfold encT; rw [hgn]; simp
    rw [e9]
    exact h9
  · have h9 := enc_3 E S p i c da dn dc cd ga gn gc l w hv' hgn hx hl hc ht
    have e9 : encT ⟨3, (E : Int), (S : Int), p, i, c, ds, cd, l⟩ = dgs [3, E, S] := by unfold encT; simp
    rw [e9]
    exact h9
theorem encX (k e s p i c : Int) (da : Option Addr) (dn dc : Nat) (cd : Int) (ga : Option Addr) (gn gc : Nat) (ds : List UInt8) (l : List Rg) (hdn : dn = ds.length) (hgn : gn = l.length) (hv : ¬ validV ⟨k, e, s, p, i, c, ds, cd, l⟩) (w : World) (hx : RdR w ga l) (hl : gn ≤ 8796093022208) (hc : gn ≤ gc) :
    Calls Tryd.prog 13 #[.agg #[.int .i64 k, .int .u64 e, .int .u64 s, .int .i64 p, .int .i64 i, .int .i64 c, .slice da dn dc, .int .i64 cd, .slice ga gn gc]] w fun er w' => er = .returned (.tuple #[.slice none 0 0, .int .i64 30]) ∧ Below w.heap.size w w' :=
  enc_bad k e s p i c da dn dc cd ga gn gc l (by rw [hdn, hgn]; exact hv) w hgn hx hl hc
theorem valV (k e s p i c : Int) (da : Option Addr) (dn dc : Nat) (cd : Int) (ga : Option Addr) (gn gc : Nat) (ds : List UInt8) (l : List Rg) (hdn : dn = ds.length) (hgn : gn = l.length) (v : Bool) (hv : v = true ↔ validV ⟨k, e, s, p, i, c, ds, cd, l⟩) (w : World) (hx : RdR w ga l) (hl : gn ≤ 8796093022208) (hc : gn ≤ gc) :
    Calls Tryd.prog 23 #[.agg #[.int .i64 k, .int .u64 e, .int .u64 s, .int .i64 p, .int .i64 i, .int .i64 c, .slice da dn dc, .int .i64 cd, .slice ga gn gc]] w fun er w' => er = .returned (.int .i64 (if v = true then 0 else 30)) ∧ Below w.heap.size w w' :=
  (valid_t k e s p i c da dn dc cd ga gn gc l v (by rw [hdn, hgn]; exact hv) w hgn hx hl hc).mono fun _ _ h => by cases v <;> exact h
/-- what a slice of one's own gives -/
theorem Own.four {w : World} {B n c : Nat} {a : Option Addr} {xs : List UInt8} (h : Own w B (.slice a n c) xs) : n = xs.length ∧ n ≤ c ∧ c ≤ 9223372036854775807 ∧ (a = none → c = 0) ∧ Rd w a xs := by
  obtain ⟨a9, c9, hv9, h1, h2, h3, h4, -⟩ := h.val
  simp only [Value.slice.injEq] at hv9
  obtain ⟨rfl, rfl, rfl⟩ := hv9
  exact ⟨rfl, h1, Nat.le_trans h2 (by decide), h3, h4⟩
/-- Decode, by what it comes to; the unit in letters -/
theorem decV (ao : Option Addr) (n cap : Nat) (xs : List UInt8) (hn : n = xs.length) (w : World) (hx : Rd w ao xs) (hlc : n ≤ cap) (hcm : cap ≤ 9223372036854775807) (hl : n ≤ 140737488355328) (ht : TabOk w) (k e s p i c : Int) (ds : List UInt8) (cd : Int) (l : List Rg) (r : Int) (dn gn : Nat) (hdn : dn = ds.length) (hgn : gn = l.length) (hd : decU xs = (⟨k, e, s, p, i, c, ds, cd, l⟩, r)) :
    Calls Tryd.prog 15 #[.slice ao n cap] w fun er w' => ∃ da dc ga gc, er = .returned (.tuple #[.agg #[.int .i64 k, .int .u64 e, .int .u64 s, .int .i64 p, .int .i64 i, .int .i64 c, .slice da dn dc, .int .i64 cd, .slice ga gn gc], .int .i64 r]) ∧ Own w' w.heap.size (.slice da dn dc) ds ∧ OwnR w' w.heap.size (.slice ga gn gc) l ∧ Below w.heap.size w w' := by
  subst hdn hgn
  refine (decode_t ao n cap xs hn w hx hlc hcm hl ht).mono ?_
  rw [hd]
  rintro er w' ⟨da, dc, ga, gc, h1, h2, h3, h4⟩
  exact ⟨da, dc, ga, gc, h1, h2, h3, h4⟩
theorem two_newU (w : World) (o1 o2 : Obj) : ((w.alloc o1).alloc o2).heap[w.heap.size]? = some o1 ∧ ((w.alloc o1).alloc o2).heap[w.heap.size + 1]? = some o2 :=
  ⟨((al (Below.refl _ _) _).block w.heap.size (by simp)).trans (heap_alloc_new w o1), by have := heap_alloc_new (w.alloc o1) o2; simpa using this⟩
theorem rd_lit2 {w : World} {g : Nat} (h : w.heap[g]? = some (.cells #[.int .i64 0, .int .i64 2, .int .i64 5, .int .i64 6] 28 (0, 0))) : RdR w (some ⟨g, 0, none⟩) [(0, 2), (5, 6)] := fun j hj => by
  refine ⟨g, 0, rfl, ?_, ?_⟩ <;> rw [cell_of_row _ _ _ _ _ _ h] <;> (match j, hj with
    | 0, _ => rfl
    | 1, _ => rfl)
theorem dg_lo (n : Nat) (h : n < 128) : dg n = [UInt8.ofNat n] := by
  unfold dg
  rw [show n / 128 = 0 by omega, hiD_zero, show n % 128 = n by omega]
  rfl
theorem dg300U : dg 300 = [130, 44] := by
  unfold dg
  rw [hiD_pos _ (by decide), show 300 / 128 / 128 = 0 from by decide, hiD_zero]
  decide
abbrev smU : Un := ⟨2, 1, 300, 0, 0, 0, [], 0, [(0, 2), (5, 6)]⟩
theorem smU_ok : validV smU := ⟨⟨by unfold nameOk; decide, by unfold nameOk; decide⟩, .inr (.inl ⟨rfl, ⟨rfl, rfl, rfl, rfl⟩, by decide, ⟨by decide, by decide, trivial⟩, .inl rfl⟩)⟩
theorem smU_enc : encT smU = [2, 1, 130, 44, 0, 2, 0, 2, 3, 1] := by
  have e : encT smU = dg 2 ++ (dg 1 ++ (dg 300 ++ (dg 0 ++ (dg 2 ++ (dg 0 ++ (dg 2 ++ (dg 3 ++ dg 1))))))) := by
    unfold encT repX smU
    simp [dgs, gotB, gotBF]
  rw [e, dg300U, dg_lo 2 (by decide), dg_lo 1 (by decide), dg_lo 0 (by decide), dg_lo 3 (by decide)]
  rfl
section
set_option maxRecDepth 20000
set_option maxHeartbeats 3200000
theorem small_law (w : World) (ht : TabOk w) : Calls Tryd.prog 4 #[] w fun er w' => er = .returned (.bool true) ∧ Below w.heap.size w w' := by
  have HT : Hid (∀ u, Below w.heap.size w u → TabOk u) := fun u hu => ht.below hu
  clear ht
  obtain ⟨X, hX⟩ : ∃ X, X = encT smU ++ sealL (encT smU) := ⟨_, rfl⟩
  have HXE : Hid (X = encT smU ++ sealL (encT smU)) := hX
  have HXL : Hid (X.length = 14) := by unfold Hid; rw [hX, smU_enc]; rfl
  have HXU : Hid (unS X = ([2, 1, 130, 44, 0, 2, 0, 2, 3, 1], 0)) := by unfold Hid; rw [hX, unS_seal, smU_enc]
  have HXD : Hid (decU X = (smU, 0)) := by unfold Hid; rw [hX]; exact decU_enc smU smU_ok
  clear hX
  go_enter Tryd.func4, Tryd.ntmps4
  go_wp2_with (refine wpList_load_g (by rfl) 38 _ rfl (w.heap.size + 1) 0 (by rfl) [.int .i64 2, .int .u64 1, .int .u64 300, .int .i64 0, .int .i64 0, .int .i64 0, .slice none 0 0, .int .i64 0, .slice (some ⟨w.heap.size, 0, none⟩) 2 2] _ (box_range (two_newU w _ _).2) Tryd.underlying38 rfl info_un ?_)
  refine Calls.mono (encV 2 1 300 0 0 0 none 0 0 0 (some ⟨w.heap.size, 0, none⟩) 2 2 [] [(0, 2), (5, 6)] rfl rfl smU_ok _ (Rd.nil _ _) (fun _ => rfl) (rd_lit2 (two_newU w _ _).1) (by decide) (by decide) (HT.out _ (al (al (Below.refl _ _) _) _))) ?_
  rintro er1 w1 ⟨a1, L1, c1, rfl, hL1, ho1, hb1⟩
  rw [← HXE.out] at hL1 ho1
  have HO1 : Hid (L1 = X.length ∧ L1 ≤ c1 ∧ c1 ≤ 9223372036854775807 ∧ (a1 = none → c1 = 0) ∧ Rd w1 a1 X) := ho1.four
  have HB1 : Hid (Below w.heap.size w w1) := below_next (al (al (Below.refl _ _) _) _) hb1
  have HU1 : Hid (UBx w1 (w.heap.size + 1) #[.int .i64 2, .int .u64 1, .int .u64 300, .int .i64 0, .int .i64 0, .int .i64 0, .slice none 0 0, .int .i64 0, .slice (some ⟨w.heap.size, 0, none⟩) 2 2]) := (hb1.block (w.heap.size + 1) (by simp)).trans (two_newU w _ _).2
  have HG1 : Hid (RdR w1 (some ⟨w.heap.size, 0, none⟩) [(0, 2), (5, 6)]) := RdR.below (rd_lit2 (two_newU w _ _).1) hb1
  have HS1 : Hid (w.heap.size + 1 < w1.heap.size) := (Array.getElem?_eq_some_iff.1 HU1.out).1
  clear hL1 ho1 hb1
  go_wp2_with fail
  refine Calls.mono (unseal_b a1 L1 c1 X HO1.out.1 w1 HO1.out.2.2.2.2 HO1.out.2.1 HO1.out.2.2.1 (by have h1 := HO1.out.1; have h2 := HXL.out; omega) (HT.out _ HB1.out) HXU.out) ?_
  rintro er1 w2 ⟨a2, L2, c2, rfl, hL2, hr2, hn2, hb2⟩
  have HL2 : Hid (L2 = 10) := hL2
  have HR2 : Hid (Rd w2 a2 [2, 1, 130, 44, 0, 2, 0, 2, 3, 1]) := hr2
  have HB2 : Hid (Below w1.heap.size w1 w2) := hb2
  clear hL2 hr2 hn2 hb2
  go_wp2_with fail
  refine Calls.mono (decV a1 L1 c1 X HO1.out.1 w2 (HO1.out.2.2.2.2.below HB2.out) HO1.out.2.1 HO1.out.2.2.1 (by have h1 := HO1.out.1; have h2 := HXL.out; omega) (HT.out _ (below_next HB1.out HB2.out)) 2 1 300 0 0 0 [] 0 [(0, 2), (5, 6)] 0 0 2 rfl rfl HXD.out) ?_
  rintro er1 w3 ⟨da, dc, ga, gc, rfl, ho3, hq3, hb3⟩
  have HQ3 : Hid (RdR w3 ga [(0, 2), (5, 6)]) := hq3.rdA.1
  have HB3 : Hid (Below w1.heap.size w1 w3) := below_next HB2.out hb3
  have HR3 : Hid (Rd w3 a2 [2, 1, 130, 44, 0, 2, 0, 2, 3, 1]) := HR2.out.below hb3
  clear ho3 hq3 hb3
  have HU3 : Hid (∀ ob, UBx (w3.alloc ob) (w.heap.size + 1) #[.int .i64 2, .int .u64 1, .int .u64 300, .int .i64 0, .int .i64 0, .int .i64 0, .slice none 0 0, .int .i64 0, .slice (some ⟨w.heap.size, 0, none⟩) 2 2]) := fun ob => ((below_next HB3.out (al (Below.refl _ _) ob)).block _ HS1.out).trans HU1.out
  have hcv := fun (ob : Obj) => conv_rd' (HR3.out.below (al (Below.refl _ _) ob)) L2 c2 HL2.out
  have hss := fun (u : World) (a : Addr) (o : Option Addr) (n c : Nat) => run_store Tryd.prog u a (.slice o n c) .plain rfl
  go_wp2_with (first
    | (refine wpList_load_g (by rfl) 38 _ rfl (w.heap.size + 1) 0 (by rfl) [.int .i64 2, .int .u64 1, .int .u64 300, .int .i64 0, .int .i64 0, .int .i64 0, .slice none 0 0, .int .i64 0, .slice (some ⟨w.heap.size, 0, none⟩) 2 2] _ (box_range (HU3.out _)) Tryd.underlying38 rfl info_un ?_)
    | (refine wpList_load_g (by rfl) 38 _ rfl w3.heap.size 0 (by rfl) [.int .i64 2, .int .u64 1, .int .u64 300, .int .i64 0, .int .i64 0, .int .i64 0, .slice da 0 dc, .int .i64 0, .slice ga 2 gc] _ (box_range (heap_alloc_new w3 _)) Tryd.underlying38 rfl info_un ?_)
    | (go_at_call 16; refine Calls.mono (sameUnit_t 2 1 300 0 0 0 none 0 0 0 (some ⟨w.heap.size, 0, none⟩) 2 2 da dc ga gc [] [(0, 2), (5, 6)] _ rfl rfl (Rd.nil _ _) (Rd.nil _ _) (RdR.below HG1.out (below_next HB3.out (al (Below.refl _ _) _))) (RdR.below HQ3.out (al (Below.refl _ _) _)) (by decide) (by decide)) ?_; rintro er1 w4 ⟨rfl, hb4⟩; have HB4 : Hid (Below w.heap.size w w4) := below_next (below_next HB1.out (below_next HB3.out (al (Below.refl _ _) _))) hb4; clear hb4))
  go_ret
  exact ⟨rfl, HB4.out⟩
end
end Go.Proofs.YtkjdeeamckmebaaDoor
