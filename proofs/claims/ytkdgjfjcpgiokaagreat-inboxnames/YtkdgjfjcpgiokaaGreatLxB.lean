import Derived.Test.YtkdgjfjcpgiokaaGreatLxA
namespace Go.Proofs.YtkdgjfjcpgiokaaGreat
set_option linter.unusedVariables false
set_option linter.unusedSimpArgs false
open Go.RowKit Go.Maps
def kU1 : Un := oneU 1 1 0 2 [97, 98]
def kU2 : Un := oneU 1 1 1 2 [99]
def kI0 : Ib := newI 2 2
def kI1 : Ib := takeI kI0 kU1
def kI2 : Ib := takeI kI1 kU2
def kI3 : Ib := decI kI2 (1, 1) 1
def kI4 : Ib := takeI kI3 kU1
theorem kA1 : takeA kI0 kU1 = ⟨3, 0, some [[97, 98], []]⟩ := by kernel_rfl
theorem kA2 : takeA kI1 kU2 = ⟨4, 0, some [[97, 98], [99]]⟩ := by kernel_rfl
theorem kE3 : decE kI2 (1, 1) 1 = 0 := by kernel_rfl
theorem kA4 : takeA kI3 kU1 = ⟨5, 1, none⟩ := by kernel_rfl
theorem kE4 : kI4.ep = 1 := by kernel_rfl
theorem kG1 {rs : List Rg} {xs : List UInt8} (h : AnsR ⟨3, 0, some [[97, 98], []]⟩ rs xs) : rs = [(0, 1)] ∧ xs = [] := by
  have h1 : xs = [] ∧ GotIs rs (some [[97, 98], []]) := by
    unfold AnsR at h
    simp only at h
    rw [if_neg (by decide)] at h
    exact h
  refine ⟨GotIs.uniq h1.2 ⟨⟨by simp, by simp⟩, fun i => Iff.rfl⟩, h1.1⟩
theorem kG2 {rs : List Rg} {xs : List UInt8} (h : AnsR ⟨4, 0, some [[97, 98], [99]]⟩ rs xs) : rs = [] ∧ xs = [97, 98, 99] := by
  unfold AnsR at h
  simp only at h
  rw [if_pos (by decide)] at h
  exact h
section
set_option maxRecDepth 20000
set_option maxHeartbeats 3200000
theorem knows_t (w : World) : Calls Tryz.prog 9 #[] w fun e w' => e = .returned (.bool true) ∧ Below w.heap.size w w' := by
  have HNW : Hid (Calls Tryz.prog 14 #[.int .i64 2, .int .i64 2] w _) := new_a 2 2 (by decide) (by decide) (by decide) (by decide) w
  have HO1 : Hid (∀ u : World, Calls Tryz.prog 17 #[.int .u64 1, .int .u64 1, .int .i64 0, .int .i64 2, .string ⟨#[97, 98]⟩] u _) := fun u => one_t 1 1 0 2 [97, 98] u
  have HO2 : Hid (∀ u : World, Calls Tryz.prog 17 #[.int .u64 1, .int .u64 1, .int .i64 1, .int .i64 2, .string ⟨#[99]⟩] u _) := fun u => one_t 1 1 1 2 [99] u
  go_enter Tryz.func9, Tryz.ntmps9
  go_wp2_with fail
  refine Calls.mono HNW.out ?_
  rintro e w1 ⟨p, F, rfl, hI, hF, hb1⟩
  have HI1 : Hid (IbA w1 p 0 kI0 F) := hI
  have HF1 : Hid _ := hF
  have HB1 : Hid _ := hb1
  clear hI hF hb1
  go_wp2_with fail
  refine Calls.mono (HO1.out _) ?_
  rintro e w2 ⟨g, cp, rfl, hrd, hg, hb2⟩
  have HI2 : Hid (IbA w2 p 0 kI0 F) := HI1.out.below hb2
  have HT2 : Hid (Calls _ _ _ w2 _) := take_a HI2.out kU1 (some ⟨g, 0, none⟩) 2 cp none 0 0 rfl rfl hrd (fun _ b hb a ha e9 => by cases ha; have := HI1.out.lt b hb; simp only at e9; omega) (fun h => by cases h) (by decide)
  rw [kA1] at HT2
  have HB2 : Hid (Below w.heap.size w w2) := below_next HB1.out hb2
  clear hrd hg hb2
  go_wp2_with fail
  refine Calls.mono HT2.out ?_
  rintro e w3 ⟨F3, B3, ga, ba, gn, gc, bn, bc, rs, xs, rfl, hA3, hI3, hc3, hf3, hB3⟩
  obtain ⟨rfl, rfl⟩ := kG1 hA3.is_
  obtain ⟨ga', gc', hv1, -, -, -, hrdg, -⟩ := OwnR.val hA3.gr
  obtain ⟨rfl, rfl, rfl⟩ : ga' = ga ∧ gn = 1 ∧ gc' = gc := by simp only [Value.slice.injEq] at hv1; exact ⟨hv1.1.symm, hv1.2.1, hv1.2.2.symm⟩
  have HB3 : Hid (Below w.heap.size w w3) := HB2.out.trans (hc3.below HF1.out HB2.out.size)
  have HF3 : Hid (∀ b, F3 b → w.heap.size ≤ b) := fun b hb => ((hf3 b hb).1).elim (HF1.out b) (fun h => Nat.le_trans HB2.out.size h)
  have HI3 : Hid (IbA w3 p 1 kI1 F3) := hI3
  have HRD3 : Hid (RdR w3 ga' [(0, 1)]) := hrdg
  have HRG : Hid (Calls Tryz.prog 27 #[.slice ga' 1 gc', .slice (some ⟨w3.heap.size + 1, 0, none⟩) 1 1] ((w3.alloc (.cells #[.int .i64 3, .int .i64 0, .slice ga' 1 gc', .slice ba bn bc] 59)).alloc (.cells #[.int .i64 0, .int .i64 1] 81)) _) :=
    rangesI_t ga' (some ⟨w3.heap.size + 1, 0, none⟩) 1 1 gc' 1 [(0, 1)] [(0, 1)] _ rfl rfl ((hrdg.below (al (Below.refl _ _) _)).below (al (Below.refl _ _) _)) (by have h9 := rd_lit1 (w3.alloc (.cells #[.int .i64 3, .int .i64 0, .slice ga' 1 gc', .slice ba bn bc] 59)) (0, 1); rw [World.size_alloc] at h9; exact h9) (by decide) rfl
  clear hA3 hI3 hc3 hf3 hB3 hrdg hv1
  unfold ansV
  go_wp2_with fail
  refine Calls.mono HRG.out ?_
  rintro e w4 ⟨rfl, hb4⟩
  have HB34 : Hid (Below w3.heap.size w3 w4) := (al (al (Below.refl w3.heap.size w3) _) _).trans (hb4.mono (by simp; omega))
  have HI4 : Hid (IbA w4 p 1 kI1 F3) := HI3.out.below HB34.out
  have HB4 : Hid (Below w.heap.size w w4) := below_next HB3.out HB34.out
  clear hb4
  go_wp2_with fail
  refine Calls.mono (HO2.out _) ?_
  rintro e w5 ⟨g5, cp5, rfl, hrd, hg, hb5⟩
  have HI5 : Hid (IbA w5 p 1 kI1 F3) := HI4.out.below hb5
  have HT5 : Hid (Calls _ _ _ w5 _) := take_a HI5.out kU2 (some ⟨g5, 0, none⟩) 1 cp5 none 0 0 rfl rfl hrd (fun _ b hb a ha e9 => by cases ha; have := HI4.out.lt b hb; simp only at e9; omega) (fun h => by cases h) (by decide)
  rw [kA2] at HT5
  have HB5 : Hid (Below w.heap.size w w5) := below_next HB4.out hb5
  clear hrd hg hb5
  go_wp2_with fail
  refine Calls.mono HT5.out ?_
  rintro e w6 ⟨F6, B6, ga6, ba6, gn6, gc6, bn6, bc6, rs6, xs6, rfl, hA6, hI6, hc6, hf6, hB6⟩
  obtain ⟨rfl, rfl⟩ := kG2 hA6.is_
  obtain ⟨ba', bc', hv6, -, -, -, hrd6, -⟩ := Own.val hA6.bl
  obtain ⟨rfl, rfl, rfl⟩ : ba' = ba6 ∧ bn6 = 3 ∧ bc' = bc6 := by simp only [Value.slice.injEq] at hv6; exact ⟨hv6.1.symm, hv6.2.1, hv6.2.2.symm⟩
  have HB6 : Hid (Below w.heap.size w w6) := HB5.out.trans (hc6.below HF3.out HB5.out.size)
  have HF6 : Hid (∀ b, F6 b → w.heap.size ≤ b) := fun b hb => ((hf6 b hb).1).elim (HF3.out b) (fun h => Nat.le_trans HB5.out.size h)
  have HI6 : Hid (IbA w6 p 2 kI2 F6) := hI6
  have hcv : (convert 24 9 (.slice ba' 3 bc')).run Tryz.prog (w6.alloc (.cells #[.int .i64 4, .int .i64 0, .slice ga6 gn6 gc6, .slice ba' 3 bc'] 59)) = .ok (.string ⟨#[97, 98, 99]⟩) _ := conv_rd' (Rd.below hrd6 (al (Below.refl _ _) _)) 3 bc' rfl
  have HDC : Hid (Calls Tryz.prog 28 #[.pointer (some ⟨p, 0, none⟩), .agg #[.int .u64 1, .int .u64 1], .int .i64 1] (w6.alloc (.cells #[.int .i64 4, .int .i64 0, .slice ga6 gn6 gc6, .slice ba' 3 bc'] 59)) _) := dec_a (hI6.below (al (Below.refl _ _) _)) (1, 1) 1 (by decide)
  rw [show decE (takeI kI1 kU2) (1, 1) 1 = 0 from kE3] at HDC
  clear hA6 hI6 hc6 hf6 hB6 hrd6 hv6
  unfold ansV
  go_wp2_with fail
  refine Calls.mono HDC.out ?_
  rintro e w7 ⟨rfl, F7, hI7, hc7, hf7⟩
  have HB66 : Hid (Below w.heap.size w (w6.alloc (.cells #[.int .i64 4, .int .i64 0, .slice ga6 gn6 gc6, .slice ba' 3 bc'] 59))) := al HB6.out _
  have HB7 : Hid (Below w.heap.size w w7) := HB66.out.trans (hc7.below HF6.out HB66.out.size)
  have HF7 : Hid (∀ b, F7 b → w.heap.size ≤ b) := fun b hb => (hf7 b hb).elim (HF6.out b) (fun h => Nat.le_trans HB66.out.size h)
  have HI7 : Hid (IbA w7 p 3 kI3 F7) := hI7
  clear hI7 hc7 hf7
  go_wp2_with fail
  refine Calls.mono (HO1.out _) ?_
  rintro e w8 ⟨g8, cp8, rfl, hrd, hg, hb8⟩
  have HI8 : Hid (IbA w8 p 3 kI3 F7) := HI7.out.below hb8
  have HT8 : Hid (Calls _ _ _ w8 _) := take_a HI8.out kU1 (some ⟨g8, 0, none⟩) 2 cp8 none 0 0 rfl rfl hrd (fun _ b hb a ha e9 => by cases ha; have := HI7.out.lt b hb; simp only at e9; omega) (fun h => by cases h) (by decide)
  rw [kA4] at HT8
  have HB8 : Hid (Below w.heap.size w w8) := below_next HB7.out hb8
  clear hrd hg hb8
  go_wp2_with fail
  refine Calls.mono HT8.out ?_
  rintro e w9 ⟨F9, B9, ga9, ba9, gn9, gc9, bn9, bc9, rs9, xs9, rfl, hA9, hI9, hc9, hf9, hB9⟩
  have HB9 : Hid (Below w.heap.size w w9) := HB8.out.trans (hc9.below HF7.out HB8.out.size)
  have HEP : Hid (Calls Tryz.prog 23 #[.pointer (some ⟨p, 0, none⟩)] (w9.alloc (.cells #[.int .i64 5, .int .i64 1, .slice ga9 gn9 gc9, .slice ba9 bn9 bc9] 59)) _) := epoch_a (hI9.below (al (Below.refl _ _) _))
  rw [show (takeI kI3 kU1).ep = 1 from kE4] at HEP
  clear hA9 hI9 hc9 hf9 hB9
  unfold ansV
  go_wp2_with fail
  refine Calls.mono HEP.out ?_
  rintro e w10 ⟨rfl, hq⟩
  have hq := hq.symm
  subst hq
  go_wp2
  go_ret
  exact ⟨rfl, al HB9.out _⟩
end
end Go.Proofs.YtkdgjfjcpgiokaaGreat
