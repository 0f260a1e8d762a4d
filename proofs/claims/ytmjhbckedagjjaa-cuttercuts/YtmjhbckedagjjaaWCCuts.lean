import Derived.Test.YtmjhbckedagjjaaLCf
namespace Go.Proofs.Ytmjhbckedagjjaa
set_option linter.unusedVariables false
set_option linter.unusedSimpArgs false
open Go.RowKit
theorem RdL.kept {w w' : World} {a : Option Addr} {E : List Dc} {T : List Seg} {g : Nat} (h : RdL w a E T) (hg : w.grownBy w' (some g)) (ha : ∀ ad, a = some ad → ad.block ≠ g) (hE : ∀ d ∈ E, ∀ ad, d.a = some ad → ad.block ≠ g) : RdL w' a E T := by
  have hb : ∀ b, b < w.heap.size → b ≠ g → w'.heap[b]? = w.heap[b]? := fun b h1 h2 => hg.block b h1 (fun e => h2 (by cases e; rfl))
  refine ⟨fun j hj => ?_, h.len, fun i d t hd ht => (h.els i d t hd ht).kept (fun ad e => hb _ ((h.els i d t hd ht).lt e) (hE d (List.mem_of_getElem? hd) ad e))⟩
  obtain ⟨b, o, e, h1, cur, fr, h2⟩ := h.rd j hj
  have hb2 := hb b (Array.getElem?_eq_some_iff.1 h2).1 (ha ⟨b, o, none⟩ e)
  refine ⟨b, o, e, fun q v hv => ?_, cur, fr, hb2.trans h2⟩
  have h9 : w'.cell? ⟨b, o + j * KL.k + q, none⟩ = w.cell? ⟨b, o + j * KL.k + q, none⟩ := World.cell?_of_block hb2
  exact h9.trans (h1 q v hv)
theorem Lists.far {w : World} {B : Nat} {a : Option Addr} {n c : Nat} {E : List Dc} {T : List Seg} (h : Lists w B (.slice a n c) E T) {g : Nat} (hg : g < B) : (∀ ad, a = some ad → ad.block ≠ g) ∧ ∀ d ∈ E, ∀ ad, d.a = some ad → ad.block ≠ g := by
  refine ⟨fun ad e => ?_, fun d hd ad e => ?_⟩
  · subst e
    have := (h.row.lt' (b := ad.block) rfl).1
    omega
  · obtain ⟨i, hi⟩ := List.mem_iff_getElem?.1 hd
    obtain ⟨t, -, ho⟩ := h.fml.get hi
    obtain ⟨da, dn, dc⟩ := d
    have := (ByV.of_own ho).2 ad e
    omega
set_option maxRecDepth 20000 in
set_option maxHeartbeats 3200000 in
theorem cutterCuts_walk (ao : Option Addr) (cap : Nat) (xs : List UInt8) (m : Int) (w : World) (hx : Rd w ao xs) (hle : xs.length ≤ cap) (hc : cap ≤ 140737488351232) (hnil : ao = none → cap = 0) (hm : -9223372036854775808 ≤ m ∧ m ≤ 9223372036854775807) :
    Calls Try.prog 3 #[.slice ao xs.length cap, .int .i64 m] w fun e w' => e = .returned (.bool true) ∧ Below w.heap.size w w' := by
  obtain ⟨n, hn⟩ : ∃ n, n = xs.length := ⟨_, rfl⟩
  rw [← hn] at hle ⊢
  have HX : Hid _ := hx
  have HN : Hid _ := hn
  have HM : Hid _ := hm
  have HLN : Hid _ := lend_t ao n cap xs 119 hn hx hnil (by omega)
  clear hx hn hm hnil
  obtain ⟨Er, hEr⟩ : ∃ Er, Er = cutE n m := ⟨_, rfl⟩
  have HER : Hid _ := hEr
  have hee : (Er != Er) = false := by simp
  have hee2 : (Er == Er) = true := by simp
  have HNUM : Hid (∀ u : World, Calls _ _ _ u _) := fun u => num_t Er u
  clear hEr
  go_enter Try.func3, Try.ntmps3
  go_wp2_with fail
  refine Calls.mono HLN.out ?_
  rintro e w1 ⟨g, c, rfl, hnc, hcm, hown1, hb1⟩
  have hgl : w.heap.size ≤ g ∧ g < w1.heap.size := World.ownsRow.lt hown1 g rfl
  have hrd1 : Rd w1 (some ⟨g, 0, none⟩) xs := by
    obtain ⟨a, c', hv, -, -, -, hrd, -⟩ := Own.val hown1
    have h9 := Rd.take hrd xs.length
    rw [List.take_left' rfl] at h9
    simp only [Value.slice.injEq] at hv
    rw [hv.1]
    exact h9
  have HC1 : Hid _ := cut_p (w := w1) (some ⟨g, 0, none⟩) n c xs m HM.out HN.out hrd1 (by omega) (by omega)
  have HO1 : Hid _ := hown1
  have HB1 : Hid _ := hb1
  have HGL : Hid _ := hgl
  have HNC : Hid _ := hnc
  clear hown1 hb1 hgl hrd1 HLN
  go_wp2_with fail
  refine Calls.mono HC1.out ?_
  rintro e w2 ⟨v2, E2, he2, hls2, hb2⟩
  rw [← HN.out, ← HER.out] at he2
  subst he2
  obtain ⟨a2, c2, hv2, hrl2, -, -⟩ := hls2.rdL
  subst hv2
  have hfar2 := hls2.far HGL.out.2
  have HR2 : Hid _ := hrl2
  have HF2 : Hid _ := hfar2
  have HB2 : Hid _ := hb2
  have HC2 : Hid _ := rcut_p (w := w2) ao n cap xs m HM.out HN.out (Rd.below HX.out (below_next HB1.out hb2)) (by omega) (by omega)
  clear hls2 hrl2 hfar2 hb2 HC1
  go_wp2_with fail
  refine Calls.mono HC2.out ?_
  rintro e w3 ⟨v3, E3, he3, hls3, hb3⟩
  rw [← HN.out, ← HER.out] at he3
  subst he3
  obtain ⟨a3, c3, hv3, hrl3, -, -⟩ := hls3.rdL
  subst hv3
  have hfar3 := hls3.far (Nat.lt_of_lt_of_le HGL.out.2 HB2.out.size)
  have hrl23 := HR2.out.below hb3
  have HR3 : Hid _ := hrl3
  have HR23 : Hid _ := hrl23
  have HF3 : Hid _ := hfar3
  have HB3 : Hid (Below w1.heap.size w1 w3) := below_next HB2.out hb3
  have hT := cutS_len xs m
  obtain ⟨T, hTq⟩ : ∃ T, T = (cutS xs m).length := ⟨_, rfl⟩
  rw [← hTq] at hT ⊢
  have HTQ : Hid _ := hTq
  have HSM : Hid _ := sameL_t (w := w3) a2 a3 T T c2 c3 E2 E3 (cutS xs m) hTq hTq hrl23 hrl3 (by omega)
  have HO3 : Hid _ := Own.below HO1.out HB3.out
  have HKP : Hid (∀ u, Below w3.heap.size w3 u → Calls _ _ _ u _) := fun u hu => kept_t (w := u) g n c xs 119 w.heap.size HN.out (Own.below HO3.out hu) HNC.out ao cap (Rd.below HX.out (below_next (below_next HB1.out HB3.out) hu)) (by omega)
  clear hls3 hrl3 hfar3 hrl23 hb3 HC2 hTq HR2
  go_wp2_with (first | (go_at_call 12; refine Calls.mono (HNUM.out _) ?_; rintro e w' ⟨rfl, hq⟩; have hq := hq.symm; subst hq) | (go_at_call 13; refine Calls.mono HSM.out ?_; rintro e w4 ⟨rfl, hb4⟩; have HB4 : Hid _ := hb4; clear hb4) | (go_at_call 14; refine Calls.mono (HKP.out _ HB4.out) ?_; rintro e w5 ⟨rfl, hb5⟩; have HB5 : Hid _ := below_next HB4.out hb5; clear hb5))
  obtain ⟨M4, hM4⟩ : ∃ M4, M4 = n + 4 := ⟨_, rfl⟩
  have HM4 : Hid _ := hM4
  clear hM4
  go_loopw [10] (fun j wr => ∃ (k : Nat) (ys : List UInt8), k ≤ n ∧ j = .int .i64 (k : Int) ∧ Hid (ys.length = M4) ∧ Own wr w.heap.size (.slice (some ⟨g, 0, none⟩) M4 c) ys ∧ w5.grownBy wr (some g)) (fun j _ => n - (intOf j).toNat)
  case atStart =>
    refine ⟨0, xs ++ mk4 119 4, Nat.zero_le _, rfl, ?_, ?_, World.grownBy.refl _ _⟩
    · unfold Hid; rw [HM4.out, HN.out]; simp [mk4]
    · rw [HM4.out]; exact Own.below HO3.out HB5.out
  case round =>
    obtain ⟨k, ys, hk, rfl, HY, hok, hgk⟩ := hrel
    by_cases hlt : k < n
    · have hltI : (k : Int) < (n : Int) := by omega
      have hk0 : (0 : Int) ≤ (k : Int) := by omega
      have hkw : IntKind.i64.wrap ((k : Int) + 1) = ((k + 1 : Nat) : Int) := by rw [IntKind.wrap_i64]; omega
      have hok' := hok
      rw [← HY.out] at hok'
      have hky : k < ys.length := by rw [HY.out, HM4.out]; omega
      have hcell : wr.cell? ⟨g, k, none⟩ = some (.int .u8 (ys[k].toNat : Int)) := by
        rw [World.ownsRow.cellAt hok' k (by omega), bv_get _ k hky]
      have hfz := World.ownsRow.frozenAt hok' k
      obtain ⟨y, hy⟩ : ∃ y, y = ys[k] := ⟨_, rfl⟩
      rw [← hy] at hcell
      have hwy : IntKind.u8.wrap ((y.toNat : Int) + 1) = (((y + 1).toNat : Nat) : Int) := u8_add y 1 (by omega)
      obtain ⟨z, hz⟩ : ∃ z : Nat, z = (y + 1).toNat := ⟨_, rfl⟩
      rw [← hz] at hwy
      have hst := own_set hok' k (y + 1) (z : Int) (by rw [hz])
      rw [HY.out] at hst
      have HST : Hid _ := hst
      have HG : Hid _ := hgk
      have HY2 : Hid ((ys.set k (y + 1)).length = M4) := by unfold Hid; rw [List.length_set]; exact HY.out
      clear hok' hst hok hgk hy hz
      go_wp2
      go_roundw
      case rel => exact ⟨k + 1, _, by omega, by go_num, HY2, HST.out.1, HG.out.trans' HST.out.2⟩
      case measure => simp [intOf]; omega
    · have hltI : ¬ (k : Int) < (n : Int) := by omega
      have hb5w : Below w.heap.size w w5 := below_next (below_next HB1.out HB3.out) HB5.out
      have hbr : Below w.heap.size w wr := hb5w.grown hgk hb5w.size (fun b hb => by cases hb; exact HGL.out.1)
      obtain ⟨zs, hzs⟩ : ∃ zs, zs = ys.take n := ⟨_, rfl⟩
      have hzl : n = zs.length := by rw [hzs, List.length_take, HY.out, HM4.out]; omega
      have hrz : Rd wr (some ⟨g, 0, none⟩) zs := by
        obtain ⟨a, c', hv, -, -, -, hrd, -⟩ := Own.val hok
        simp only [Value.slice.injEq] at hv
        rw [hzs, hv.1]
        exact Rd.take hrd n
      have hr2' := (HR23.out.below HB5.out).kept hgk HF2.out.1 HF2.out.2
      have hr3' := (HR3.out.below HB5.out).kept hgk HF3.out.1 HF3.out.2
      have HZL : Hid _ := hzl
      have HRZ : Hid _ := hrz
      have HR2' : Hid _ := hr2'
      have HR3' : Hid _ := hr3'
      have HBR : Hid _ := hbr
      have hg0 : (some (⟨g, 0, none⟩ : Addr)) = none → c = 0 := fun h => by cases h
      clear hzs hzl hrz hr2' hr3' hbr hb5w hok hgk HR23 HR3 HB5 HSM HKP HO3 HO1 HX
      have hncc : n ≤ c := by omega
      go_wp2_with (at_builtin; refine wp_app rfl _ _ rfl w.heap.size _ [] zs _ _ rfl ((own_made0 wr).base HBR.out.size) (by rw [← HZL.out]; rfl) (Rd.alloc HRZ.out _) (fun h => by cases h) (by rw [← HZL.out]; simp; omega) (by have := HBR.out.size; simp; omega) ?_; intro v6 w6 hown6 hg6; have HO6 : Hid (Own w6 w.heap.size v6 ([] ++ zs)) := hown6; have HG6 : Hid _ := hg6; clear hown6 hg6)
      have hb6 : Below wr.heap.size wr w6 := (al (Below.refl _ _) (.cells #[] 5)).grown HG6.out (by simp) (fun b hb => by cases hb; exact Nat.le_refl _)
      have ho6 := HO6.out
      rw [List.nil_append] at ho6
      obtain ⟨a6, c6, hv6, hle6, -, hnil6, hrd6, -⟩ := ho6.val
      rw [← HZL.out] at hv6 hle6
      subst hv6
      have HRD6 : Hid _ := hrd6
      have HB6 : Hid _ := hb6
      have HC6 : Hid _ := cut_p (w := w6) (some ⟨g, 0, none⟩) n c zs m HM.out HZL.out (Rd.below HRZ.out hb6) hncc (by omega)
      clear ho6 hrd6 hb6 HO6 HG6
      go_wp2_with fail
      refine Calls.mono HC6.out ?_
      rintro e w7 ⟨v7, E7, he7, hls7, hb7⟩
      rw [← HZL.out, ← HER.out] at he7
      subst he7
      obtain ⟨a7, c7, hv7, hrl7, -, -⟩ := hls7.rdL
      subst hv7
      have HR7 : Hid _ := hrl7
      have HB7 : Hid _ := below_next HB6.out hb7
      have hrd67 := Rd.below HRD6.out hb7
      have HC7 : Hid _ := rcut_p (w := w7) a6 n c6 zs m HM.out HZL.out hrd67 hle6 (by omega)
      have HRD7 : Hid _ := hrd67
      clear hls7 hrl7 hb7 HC6 hrd67 HRD6
      go_wp2_with fail
      refine Calls.mono HC7.out ?_
      rintro e w8 ⟨v8, E8, he8, hls8, hb8⟩
      rw [← HZL.out, ← HER.out] at he8
      subst he8
      obtain ⟨a8, c8, hv8, hrl8, -, -⟩ := hls8.rdL
      subst hv8
      have hT2 := cutS_len zs m
      obtain ⟨U, hUq⟩ : ∃ U, U = (cutS zs m).length := ⟨_, rfl⟩
      rw [← hUq] at hT2 ⊢
      have hb8r : Below wr.heap.size wr w8 := below_next HB7.out hb8
      have HSM1 : Hid _ := sameL_t (w := w8) a7 a8 U U c7 c8 E7 E8 (cutS zs m) hUq hUq (HR7.out.below hb8) hrl8 (by omega)
      have HSM2 : Hid (∀ u, Below w8.heap.size w8 u → Calls _ _ _ u _) := fun u hu => sameL_t (w := u) a2 a3 T T c2 c3 E2 E3 (cutS xs m) HTQ.out HTQ.out (HR2'.out.below (below_next hb8r hu)) (HR3'.out.below (below_next hb8r hu)) (by omega)
      have HCV : Hid (∀ u, Below w8.heap.size w8 u → (convert 22 9 (.slice (some ⟨g, 0, none⟩) n c)).run Try.prog u = .ok (.string ⟨zs.toArray⟩) u ∧ (convert 22 9 (.slice a6 n c6)).run Try.prog u = .ok (.string ⟨zs.toArray⟩) u) := fun u hu => ⟨conv_rd' (Rd.below HRZ.out (below_next hb8r hu)) n c HZL.out, conv_rd' (Rd.below (Rd.below HRD7.out hb8) hu) n c6 HZL.out⟩
      have HB8 : Hid (Below w.heap.size w w8) := below_next HBR.out hb8r
      clear hls8 hrl8 hb8 hb8r hUq HC7
      go_wp2_with (first | (go_at_call 12; refine Calls.mono (HNUM.out _) ?_; rintro e w' ⟨rfl, hq⟩; have hq := hq.symm; subst hq) | (have hh := HB9; go_at_call 13; refine Calls.mono (HSM2.out _ HB9.out) ?_; rintro e w10 ⟨rfl, hb10⟩; obtain ⟨cv1, cv2⟩ := HCV.out _ (below_next HB9.out hb10); have HB10 : Hid _ := below_next HB8.out (below_next HB9.out hb10); clear hb10) | (go_at_call 13; refine Calls.mono HSM1.out ?_; rintro e w9 ⟨rfl, hb9⟩; have HB9 : Hid _ := hb9; clear hb9))
      go_ret
      exact ⟨rfl, HB10.out⟩
end Go.Proofs.Ytmjhbckedagjjaa
