import Derived.Test.YtnpcgegcoakbmaaDoorTEw
namespace Go.Proofs.YtnpcgegcoakbmaaDoor
set_option linter.unusedVariables false
set_option linter.unusedSimpArgs false
open Go.RowKit
set_option maxRecDepth 100000 in
set_option maxHeartbeats 12800000 in
theorem tcase6n (r : Int) (ta : Option Addr) (tcap : Nat) (ts : List Tx) (ao : Option Addr) (cap : Nat) (xs : List OpD) (w : World) (R : Nat) (hRm : R ≤ 1024) (hR0 : 1 ≤ R) (htl : ts.length ≤ 8796093022208) (hl : xs.length ≤ 4398046511103) (HRo : Hid (RdO w ao xs)) (HRt : Hid (RdT w ta ts)) (HTZ : Hid (∀ u, Below w.heap.size w u → TabZ u)) (HTO : Hid (∀ u, Below w.heap.size w u → TabOk u))
    (u6 u9 u12 u13 u14 u15 u16 u17 u18 u19 u20 u21 u22 u23 u24 u25 u26 u27 u28 u29 u30 u31 u32 u33 u34 u35 u36 u37 u38 u39 u40 u41 u42 u43 u44 u45 u46 u47 u48 u49 u50 u51 u52 u53 u54 u55 u56 u57 u58 u59 u60 u61 u62 u63 u64 u65 u66 u67 u68 u69 u70 u71 u72 u73 u74 u75 u76 u77 u78 u79 u80 u81 u82 u83 u84 u85 u86 u87 u88 u89 u90 u91 u92 u93 u94 u95 u96 u97 u98 u99 u100 u101 u102 u103 u104 u105 u106 u107 u108 u109 u110 u111 u112 u113 u114 u115 u116 u117 u118 u119 u120 u121 u122 u123 u124 u125 u126 u127 u128 u129 u130 u131 u132 u133 u134 u135 u136 u137 u138 u139 u140 u141 u142 u143 u144 u145 u146 u147 u148 u149 u150 u151 u152 u153 u154 u155 u156 u157 u158 u159 u160 u161 u162 u163 u164 u165 u166 u167 u168 u169 u170 u171 u172 u173 u174 u175 u176 u177 u178 u179 u180 u181 u182 u183 u184 u185 u186 u187 u188 u189 u190 u191 u192 u193 u194 u195 u196 u197 u198 u199 u200 u201 u202 u203 u204 u205 u206 u207 u208 u209 u210 u211 u212 u213 u214 u215 u216 u217 u218 u219 u220 u221 u222 u223 u224 u225 u226 u227 u228 u229 u230 u231 u232 u233 u234 u235 u236 u237 u238 u239 u240 u241 u242 u243 u244 u245 u246 u247 u248 u249 u250 u251 u252 u253 u254 u255 u256 u257 u258 u259 u260 u261 u262 u263 u264 u265 u266 u267 u268 u269 u270 u271 u272 u273 u274 u275 u276 u277 u278 u279 u280 u281 u282 u283 u284 u285 u286 u287 u288 u289 u290 u291 u292 u293 u294 u295 u296 u297 u298 u299 u300 u301 u302 u303 u304 u305 u306 u307 u308 u309 u310 u311 u312 : Value) (wr : World) (k : Nat) (F : List Sc) (Bs : List Bk) (ba : Option Addr) (N bc : Nat) (hk : k ≤ xs.length) (hNbc : N ≤ bc) (HNB : Hid (N = Bs.length)) (hNR : N ≤ R) (HBK : Hid (Bok wr w.heap.size (.slice ba N bc) F Bs)) (HP : Hid (On SP w.heap.size X0 wr w.heap.size R (Bs.map toD))) (HB : Hid (Below w.heap.size w wr)) (hlt : k < xs.length) (hkd : xs[k].kd = 6) (hN0 : ¬ N = 0) (Q0 : Exit → Act → World → Prop) :
    Code.wp Tryd.prog (TB Tryd.f5.body) (Exit.then (fun a' w'' => WI r ta tcap ts ao cap xs w R a' w'' ∧ Wmu xs.length a' w'' < Wmu xs.length ⟨#[.int .i64 r, .slice ta ts.length tcap, .slice ao xs.length cap, undef, undef, undef, u6, .int .i64 (R : Int), .pointer (some ⟨w.heap.size, 0, none⟩), u9, .slice ba N bc, .int .i64 k, u12, u13, u14, u15, u16, u17, u18, u19, u20, u21, u22, u23, u24, u25, u26, u27, u28, u29, u30, u31, u32, u33, u34, u35, u36, u37, u38, u39, u40, u41, u42, u43, u44, u45, u46, u47, u48, u49, u50, u51, u52, u53, u54, u55, u56, u57, u58, u59, u60, u61, u62, u63, u64, u65, u66, u67, u68, u69, u70, u71, u72, u73, u74, u75, u76, u77, u78, u79, u80, u81, u82, u83, u84, u85, u86, u87, u88, u89, u90, u91, u92, u93, u94, u95, u96, u97, u98, u99, u100, u101, u102, u103, u104, u105, u106, u107, u108, u109, u110, u111, u112, u113, u114, u115, u116, u117, u118, u119, u120, u121, u122, u123, u124, u125, u126, u127, u128, u129, u130, u131, u132, u133, u134, u135, u136, u137, u138, u139, u140, u141, u142, u143, u144, u145, u146, u147, u148, u149, u150, u151, u152, u153, u154, u155, u156, u157, u158, u159, u160, u161, u162, u163, u164, u165, u166, u167, u168, u169, u170, u171, u172, u173, u174, u175, u176, u177, u178, u179, u180, u181, u182, u183, u184, u185, u186, u187, u188, u189, u190, u191, u192, u193, u194, u195, u196, u197, u198, u199, u200, u201, u202, u203, u204, u205, u206, u207, u208, u209, u210, u211, u212, u213, u214, u215, u216, u217, u218, u219, u220, u221, u222, u223, u224, u225, u226, u227, u228, u229, u230, u231, u232, u233, u234, u235, u236, u237, u238, u239, u240, u241, u242, u243, u244, u245, u246, u247, u248, u249, u250, u251, u252, u253, u254, u255, u256, u257, u258, u259, u260, u261, u262, u263, u264, u265, u266, u267, u268, u269, u270, u271, u272, u273, u274, u275, u276, u277, u278, u279, u280, u281, u282, u283, u284, u285, u286, u287, u288, u289, u290, u291, u292, u293, u294, u295, u296, u297, u298, u299, u300, u301, u302, u303, u304, u305, u306, u307, u308, u309, u310, u311, u312, undef, undef, undef, undef, undef, undef, undef, undef, undef, undef, undef, undef, undef, undef, undef, undef, undef, undef, undef, undef, undef, undef, undef, undef, undef], []⟩ wr) Q0) ⟨#[.int .i64 r, .slice ta ts.length tcap, .slice ao xs.length cap, undef, undef, undef, u6, .int .i64 (R : Int), .pointer (some ⟨w.heap.size, 0, none⟩), u9, .slice ba N bc, .int .i64 k, u12, u13, u14, u15, u16, u17, u18, u19, u20, u21, u22, u23, u24, u25, u26, u27, u28, u29, u30, u31, u32, u33, u34, u35, u36, u37, u38, u39, u40, u41, u42, u43, u44, u45, u46, u47, u48, u49, u50, u51, u52, u53, u54, u55, u56, u57, u58, u59, u60, u61, u62, u63, u64, u65, u66, u67, u68, u69, u70, u71, u72, u73, u74, u75, u76, u77, u78, u79, u80, u81, u82, u83, u84, u85, u86, u87, u88, u89, u90, u91, u92, u93, u94, u95, u96, u97, u98, u99, u100, u101, u102, u103, u104, u105, u106, u107, u108, u109, u110, u111, u112, u113, u114, u115, u116, u117, u118, u119, u120, u121, u122, u123, u124, u125, u126, u127, u128, u129, u130, u131, u132, u133, u134, u135, u136, u137, u138, u139, u140, u141, u142, u143, u144, u145, u146, u147, u148, u149, u150, u151, u152, u153, u154, u155, u156, u157, u158, u159, u160, u161, u162, u163, u164, u165, u166, u167, u168, u169, u170, u171, u172, u173, u174, u175, u176, u177, u178, u179, u180, u181, u182, u183, u184, u185, u186, u187, u188, u189, u190, u191, u192, u193, u194, u195, u196, u197, u198, u199, u200, u201, u202, u203, u204, u205, u206, u207, u208, u209, u210, u211, u212, u213, u214, u215, u216, u217, u218, u219, u220, u221, u222, u223, u224, u225, u226, u227, u228, u229, u230, u231, u232, u233, u234, u235, u236, u237, u238, u239, u240, u241, u242, u243, u244, u245, u246, u247, u248, u249, u250, u251, u252, u253, u254, u255, u256, u257, u258, u259, u260, u261, u262, u263, u264, u265, u266, u267, u268, u269, u270, u271, u272, u273, u274, u275, u276, u277, u278, u279, u280, u281, u282, u283, u284, u285, u286, u287, u288, u289, u290, u291, u292, u293, u294, u295, u296, u297, u298, u299, u300, u301, u302, u303, u304, u305, u306, u307, u308, u309, u310, u311, u312, undef, undef, undef, undef, undef, undef, undef, undef, undef, undef, undef, undef, undef, undef, undef, undef, undef, undef, undef, undef, undef, undef, undef, undef, undef], []⟩ wr := by
  conv => arg 2; whnf
  obtain ⟨b, o, rfl, hok, hrg⟩ := HRo.out k hlt
  obtain ⟨op, hop⟩ : ∃ op, op = xs[k] := ⟨_, rfl⟩
  rw [← hop] at hok hrg hkd
  obtain ⟨kd, oi, oat, om, oa, on, oc, oxs⟩ := op
  simp only at hkd
  subst hkd
  have HOK : Hid _ := hok
  have HRG : Hid _ := rangeAt_below hrg HB.out
  have hk0 : (0 : Int) ≤ (k : Int) := by omega
  have hkI : (k : Int) < (xs.length : Int) := by omega
  have hoi := hok.hi
  simp only at hoi
  obtain ⟨hoi0, hoi1⟩ := hoi
  clear hop hok hrg
  have hNp : (0 : Int) < (N : Int) := by omega
  obtain ⟨rr, kk, q1, q2, q3, q4, q5⟩ := mod_in oi N (by omega)
  have hkk0 : (0 : Int) ≤ (kk : Int) := by omega
  have hkkI : (kk : Int) < (N : Int) := by omega
  have hkm : kk < 1024 := by omega
  obtain ⟨g, rfl⟩ : ∃ g, ba = some ⟨g, 0, none⟩ := by
    obtain ⟨g, c', hv', -⟩ := HBK.out.row.one (by rw [HBK.out.len, ← HNB.out]; omega)
    simp only [Value.slice.injEq] at hv'
    exact ⟨g, hv'.1⟩
  have HKL : Hid (kk < Bs.length) := by unfold Hid; rw [← HNB.out]; exact q5
  obtain ⟨bb, hbb⟩ : ∃ bb, Bs[kk]? = some bb := ⟨_, List.getElem?_eq_getElem HKL.out⟩
  have HBB : Hid _ := hbb
  clear hbb
  go_upto_region 15 with (refine wpList_load_mid rfl tOp _ rfl b (o + k * 5) rfl (opl ⟨6, oi, oat, om, oa, on, oc, oxs⟩) _ HRG.out Tryd.underlying46 rfl size_op' ?_)
  obtain ⟨w1, hw1⟩ : ∃ w1, w1 = wr.alloc (.cells (opv 6 oa on oc oi oat om) tOp) := ⟨_, rfl⟩
  have hb1 : Below wr.heap.size wr w1 := by rw [hw1]; exact al (Below.refl _ _) _
  have hbx1 : w1.heap[wr.heap.size]? = some (.cells (opv 6 oa on oc oi oat om) tOp (0, 0)) := by rw [hw1]; exact heap_alloc_new wr _
  rw [← hw1]
  have hB1 : w.heap.size ≤ w1.heap.size := Nat.le_trans HB.out.size hb1.size
  have HP1 : Hid _ := HP.out.below hb1
  have HBK1 : Hid _ := HBK.out.below hb1
  have HB1 : Hid (Below w.heap.size w w1) := HB.out.trans (hb1.mono HB.out.size)
  have HX1 : Hid _ := hbx1
  obtain ⟨z0, -, z2, z3, z4⟩ := opcell hbx1
  clear hw1 hb1 hbx1
  go_wp2_with fail
  refine Calls.mono (oTurn HP1.out (fun b hb => hb.elim) hB1 (kk : Int) oat om HOK.out.hm HOK.out.ha.1 HOK.out.ha.2 (HTZ.out _ HB1.out)) ?_
  rintro e w2 ⟨rfl, hP2, hf2⟩
  rw [trnL_map HBB.out] at hP2
  rw [trnE_map HBB.out]
  have HBK2 : Hid _ := HBK1.out.fr hf2
  have HB2 : Hid _ := HB1.out.trans hf2.bel
  have hx2 := (hf2.ty _ _ _ _ HX1.out (by decide) (by decide)).trans HX1.out
  have HX2 : Hid _ := hx2
  obtain ⟨y0, y1, y2, y3, y4⟩ := opcell hx2
  obtain ⟨f, hf, x0, x1, x2, hfb⟩ := HBK2.out.at_ rfl HBB.out
  obtain ⟨fa, fn, fc, fat, fm⟩ := f
  obtain ⟨hfa, hfm, hby, hok⟩ := hfb
  simp only at hfa hfm
  subst hfa hfm
  have hn := hby.n
  simp only at hn
  subst hn
  have hsll : (sl bb).length ≤ 2048 := by rw [sl_len]; have := hok.l; omega
  have HIN : Hid (∀ u : World, Calls _ _ _ u _) := fun u => inside_t (w := u) (sl bb).length oat om hsll HOK.out.hm HOK.out.ha.1 HOK.out.ha.2
  have HWK : Hid (wOk (sl bb).length oat om = (decide (om ≠ 0) && okB (sl bb).length oat om)) := rfl
  have HBY2 : Hid _ := hby
  have HOK9 : Hid _ := hok
  have HF2 : Hid _ := hf
  clear hf2 hx2 hby hok hf
  by_cases hm0 : bb.m = 0
  · have hmb : ((bb.m : Int) == 0) = true := by simp [hm0]
    have hmd : decide (bb.m ≠ 0) = false := by simp [hm0]
    have HM0 : Hid _ := hm0
    rw [hmd] at hP2 ⊢
    clear hm0 hmd
    by_cases ho0 : om = 0
    · have hob : ((om : Int) != 0) = false := by simp [ho0]
      have hwk : wOk (sl bb).length oat om = false := by rw [HWK.out]; simp [ho0]
      rw [hwk] at hP2 ⊢
      have HP2 : Hid (On SP w.heap.size X0 w2 w.heap.size R (Bs.map toD)) := hP2
      clear hwk ho0 hP2
      focus
        go_wp2
        go_quiet ((go_at_call 19; exact Calls.quiet_of_same (HIN.out _)))
        have HPd : Hid _ := HP2.out.below (below_drewN _ nq)
        have HBKd : Hid _ := HBK2.out.below (below_drewN _ nq)
        have HBd : Hid _ := HB2.out.trans ((below_drewN w2 nq).mono HB2.out.size)
        have HLd : Hid ((Bs.map toD).length = N) := by unfold Hid; rw [List.length_map]; exact HNB.out.symm
        go_wp2_with (go_at_call 9; refine Calls.mono (oLen' HPd.out HLd.out) ?_; rintro e w9 ⟨rfl, hq⟩; have hq := hq.symm; subst hq)
        refine ⟨?_, ?_⟩
        · unfold WI
          iterate 305 (apply Exists.intro)
          exact ⟨⟨k + 1, F, Bs, by omega, by go_num, HBKd.out, HPd.out, HBd.out⟩, rfl⟩
        · simp [Wmu, intOf]; omega
    · have hob : ((om : Int) != 0) = true := by simp; omega
      rcases hin : okB (sl bb).length oat om with _ | _
      · have hwk : wOk (sl bb).length oat om = false := by rw [HWK.out, hin]; simp
        rw [hwk] at hP2 ⊢
        have HP2 : Hid (On SP w.heap.size X0 w2 w.heap.size R (Bs.map toD)) := hP2
        have HIB : Hid _ := hin
        have HINb : Hid (∀ u : World, Calls Tryd.prog 19 #[.int .i64 ((sl bb).length : Int), .int .i64 oat, .int .u32 (om : Int)] u fun e w' => e = .returned (.bool false) ∧ w' = u) := fun u => by have h9 := inside_t (w := u) (sl bb).length oat om hsll HOK.out.hm HOK.out.ha.1 HOK.out.ha.2; rw [hin] at h9; exact h9
        clear hwk ho0 hP2 hin
        focus
          go_wp2
          go_quiet ((go_at_call 19; exact Calls.quiet_of_same (HINb.out _)))
          have HPd : Hid _ := HP2.out.below (below_drewN _ nq)
          have HBKd : Hid _ := HBK2.out.below (below_drewN _ nq)
          have HBd : Hid _ := HB2.out.trans ((below_drewN w2 nq).mono HB2.out.size)
          have HLd : Hid ((Bs.map toD).length = N) := by unfold Hid; rw [List.length_map]; exact HNB.out.symm
          go_wp2_with (go_at_call 9; refine Calls.mono (oLen' HPd.out HLd.out) ?_; rintro e w9 ⟨rfl, hq⟩; have hq := hq.symm; subst hq)
          refine ⟨?_, ?_⟩
          · unfold WI
            iterate 305 (apply Exists.intro)
            exact ⟨⟨k + 1, F, Bs, by omega, by go_num, HBKd.out, HPd.out, HBd.out⟩, rfl⟩
          · simp [Wmu, intOf]; omega
      · have hwk : wOk (sl bb).length oat om = true := by rw [HWK.out, hin]; simp [ho0]
        rw [hwk] at hP2 ⊢
        have HP2 : Hid (On SP w.heap.size X0 w2 w.heap.size R ((Bs.set kk ⟨bb.tx, oat, om⟩).map toD)) := hP2
        have HIB : Hid _ := hin
        have HINb : Hid (∀ u : World, Calls Tryd.prog 19 #[.int .i64 ((sl bb).length : Int), .int .i64 oat, .int .u32 (om : Int)] u fun e w' => e = .returned (.bool true) ∧ w' = u) := fun u => by have h9 := inside_t (w := u) (sl bb).length oat om hsll HOK.out.hm HOK.out.ha.1 HOK.out.ha.2; rw [hin] at h9; exact h9
        have HO0 : Hid _ := ho0
        clear hwk ho0 hP2 hin
        focus
          go_wp2
          go_quiet ((go_at_call 19; exact Calls.quiet_of_same (HINb.out _)))
          obtain ⟨w3, hw3⟩ : ∃ w3, w3 = w2.drewN nq := ⟨_, rfl⟩
          have hb3 : Below w2.heap.size w2 w3 := by rw [hw3]; exact below_drewN _ _
          rw [← hw3]
          have HP3 : Hid _ := HP2.out.below hb3
          have HBK3 : Hid _ := HBK2.out.below hb3
          have HB3 : Hid _ := HB2.out.trans (hb3.mono HB2.out.size)
          have HBY3 : Hid _ := HBY2.out.below hb3
          have HX3 : Hid _ := (hb3.block _ (Array.getElem?_eq_some_iff.1 HX2.out).1).trans HX2.out
          clear hw3 hb3 x0 x1 x2 y0 y1 y2 y3 y4
          have HC : Hid (∀ u, Below w3.heap.size w3 u → (u.cell? ⟨g, kk * 3, none⟩ = some (.slice fa (sl bb).length fc) ∧ u.cell? ⟨g, kk * 3 + 2, none⟩ = some (.int .u32 (bb.m : Int))) ∧ u.cell? ⟨wr.heap.size, 3, none⟩ = some (.int .i64 oat) ∧ u.cell? ⟨wr.heap.size, 4, none⟩ = some (.int .u32 (om : Int))) := fun u hu => by
            have h9 := rangeAt_below (HBK3.out.rowat rfl HF2.out) hu
            have h8 := opcell ((hu.block _ (Array.getElem?_eq_some_iff.1 HX3.out).1).trans HX3.out)
            exact ⟨⟨h9 0 _ rfl, h9 2 _ rfl⟩, h8.2.2.2.1, h8.2.2.2.2⟩
          have HCV : Hid (∀ u, Below w3.heap.size w3 u → _) := fun u hu => conv_rd' (HBY3.out.below hu).rd _ fc rfl
          have HNE : Hid (bst oat om (sl bb) 32 ≠ sl bb) := fun e => (bst_same oat om (sl bb)).1 e (tch_ok HO0.out HOK.out.hm HIB.out)
          obtain ⟨Y, hY⟩ : ∃ Y, Y = bst oat om (sl bb) 32 := ⟨_, rfl⟩
          have HY : Hid _ := hY
          have hYS : ((⟨Y.toArray⟩ : ByteArray).toList == (⟨(sl bb).toArray⟩ : ByteArray).toList) = false := by
            rw [beq_eq_false_iff_ne]
            intro e
            rw [Lib.toList_data, Lib.toList_data] at e
            rw [hY] at e
            exact HNE.out e
          have hYS2 : (Y == sl bb) = false := by rw [beq_eq_false_iff_ne, hY]; exact HNE.out
          have hYS3 : ¬ Y = sl bb := by rw [hY]; exact HNE.out
          clear hY
          have hmn : ((bb.m : Int) != 0) = false := by have := HM0.out; simp [this]
          go_wp2
          refine wp_region_noPanic ?_
          refine wp_region_held_drew (S := (fun u => Below w3.heap.size w3 u)) (by kernel_rfl) (by first | exact (Below.refl _ _).drew | exact HB5.out) (fun hHeld => ?_)
          refine take_at (i := 0) 203 (v := ?_) rfl rfl (by kernel_rfl) (by kernel_rfl) (by kernel_rfl) (fun _ _ _ h => h) (by rfl) ?_ hHeld ?_
          rotate_left
          · (intro w hSw; (try dsimp only at hSw); go_simp; try with_reducible rfl)
          simp only [Act.put, List.setIfInBounds_toArray, List.set_cons_zero, List.set_cons_succ]
          refine take_at (i := 1) 204 (v := ?_) rfl rfl (by kernel_rfl) (by kernel_rfl) (by kernel_rfl) (fun _ _ _ h => h) (by rfl) ?_ hHeld ?_
          rotate_left
          · (intro w hSw; (try dsimp only at hSw); go_simp; try with_reducible rfl)
          simp only [Act.put, List.setIfInBounds_toArray, List.set_cons_zero, List.set_cons_succ]
          refine take_at (i := 2) 205 (v := ?_) rfl rfl (by kernel_rfl) (by kernel_rfl) (by kernel_rfl) (fun _ _ _ h => h) (by rfl) ?_ hHeld ?_
          rotate_left
          · (intro w hSw; (try dsimp only at hSw); go_simp; try with_reducible rfl)
          simp only [Act.put, List.setIfInBounds_toArray, List.set_cons_zero, List.set_cons_succ]
          refine take_at (i := 3) 206 (v := ?_) rfl rfl (by kernel_rfl) (by kernel_rfl) (by kernel_rfl) (fun _ _ _ h => h) (by rfl) ?_ hHeld ?_
          rotate_left
          · (intro w hSw; (try dsimp only at hSw); go_simp; try with_reducible rfl)
          simp only [Act.put, List.setIfInBounds_toArray, List.set_cons_zero, List.set_cons_succ]
          refine take_at (i := 4) 207 (v := .int .u32 (bb.m : Int)) rfl rfl (by kernel_rfl) (by kernel_rfl) (by kernel_rfl) (fun _ _ _ h => h) (by rfl) ?_ hHeld ?_
          · (intro w hSw; obtain ⟨⟨-, hc9⟩, -, -⟩ := HC.out _ hSw; go_simp; try with_reducible rfl)
          simp only [Act.put, List.setIfInBounds_toArray, List.set_cons_zero, List.set_cons_succ]
          refine take_at (i := 5) 208 (v := ?_) rfl rfl (by kernel_rfl) (by kernel_rfl) (by kernel_rfl) (fun _ _ _ h => h) (by rfl) ?_ hHeld ?_
          rotate_left
          · (intro w hSw; (try dsimp only at hSw); go_simp; try with_reducible rfl)
          simp only [Act.put, List.setIfInBounds_toArray, List.set_cons_zero, List.set_cons_succ]
          refine take_at (i := 6) 209 (v := ?_) rfl rfl (by kernel_rfl) (by kernel_rfl) (by kernel_rfl) (fun _ _ _ h => h) (by rfl) ?_ hHeld ?_
          rotate_left
          · (intro w hSw; (try dsimp only at hSw); go_simp; try with_reducible rfl)
          simp only [Act.put, List.setIfInBounds_toArray, List.set_cons_zero, List.set_cons_succ]
          refine take_at (i := 7) 210 (v := ?_) rfl rfl (by kernel_rfl) (by kernel_rfl) (by kernel_rfl) (fun _ _ _ h => h) (by rfl) ?_ hHeld ?_
          rotate_left
          · (intro w hSw; (try dsimp only at hSw); go_simp; try with_reducible rfl)
          simp only [Act.put, List.setIfInBounds_toArray, List.set_cons_zero, List.set_cons_succ]
          refine take_at (i := 8) 211 (v := ?_) rfl rfl (by kernel_rfl) (by kernel_rfl) (by kernel_rfl) (fun _ _ _ h => h) (by rfl) ?_ hHeld ?_
          rotate_left
          · (intro w hSw; (try dsimp only at hSw); go_simp; try with_reducible rfl)
          simp only [Act.put, List.setIfInBounds_toArray, List.set_cons_zero, List.set_cons_succ]
          refine take_at (i := 9) 212 (v := ?_) rfl rfl (by kernel_rfl) (by kernel_rfl) (by kernel_rfl) (fun _ _ _ h => h) (by rfl) ?_ hHeld ?_
          rotate_left
          · (intro w hSw; (try dsimp only at hSw); go_simp; try with_reducible rfl)
          simp only [Act.put, List.setIfInBounds_toArray, List.set_cons_zero, List.set_cons_succ]
          refine take_at (i := 10) 213 (v := ?_) rfl rfl (by kernel_rfl) (by kernel_rfl) (by kernel_rfl) (fun _ _ _ h => h) (by rfl) ?_ hHeld ?_
          rotate_left
          · (intro w hSw; (try dsimp only at hSw); go_simp; try with_reducible rfl)
          simp only [Act.put, List.setIfInBounds_toArray, List.set_cons_zero, List.set_cons_succ]
          refine take_at (i := 11) 214 (v := .slice fa (sl bb).length fc) rfl rfl (by kernel_rfl) (by kernel_rfl) (by kernel_rfl) (fun _ _ _ h => h) (by rfl) ?_ hHeld ?_
          · (intro w hSw; obtain ⟨⟨hc9, -⟩, -, -⟩ := HC.out _ hSw; go_simp; try with_reducible rfl)
          simp only [Act.put, List.setIfInBounds_toArray, List.set_cons_zero, List.set_cons_succ]
          refine take_at (i := 12) 215 (v := ?_) rfl rfl (by kernel_rfl) (by kernel_rfl) (by kernel_rfl) (fun _ _ _ h => h) (by rfl) ?_ hHeld ?_
          rotate_left
          · (intro w hSw; (try dsimp only at hSw); go_simp; try with_reducible rfl)
          simp only [Act.put, List.setIfInBounds_toArray, List.set_cons_zero, List.set_cons_succ]
          refine take_at (i := 13) 216 (v := .int .i64 oat) rfl rfl (by kernel_rfl) (by kernel_rfl) (by kernel_rfl) (fun _ _ _ h => h) (by rfl) ?_ hHeld ?_
          · (intro w hSw; obtain ⟨-, hc9, -⟩ := HC.out _ hSw; go_simp; try with_reducible rfl)
          simp only [Act.put, List.setIfInBounds_toArray, List.set_cons_zero, List.set_cons_succ]
          refine take_at (i := 14) 217 (v := ?_) rfl rfl (by kernel_rfl) (by kernel_rfl) (by kernel_rfl) (fun _ _ _ h => h) (by rfl) ?_ hHeld ?_
          rotate_left
          · (intro w hSw; (try dsimp only at hSw); go_simp; try with_reducible rfl)
          simp only [Act.put, List.setIfInBounds_toArray, List.set_cons_zero, List.set_cons_succ]
          refine take_at (i := 15) 218 (v := .int .u32 (om : Int)) rfl rfl (by kernel_rfl) (by kernel_rfl) (by kernel_rfl) (fun _ _ _ h => h) (by rfl) ?_ hHeld ?_
          · (intro w hSw; obtain ⟨-, -, hc9⟩ := HC.out _ hSw; go_simp; try with_reducible rfl)
          simp only [Act.put, List.setIfInBounds_toArray, List.set_cons_zero, List.set_cons_succ]
          refine take_at (i := 18) 221 (v := ?_) rfl rfl (by kernel_rfl) (by kernel_rfl) (by kernel_rfl) (fun _ _ _ h => h) (by rfl) ?_ hHeld ?_
          rotate_left
          · (intro w hSw; (try dsimp only at hSw); go_simp; try with_reducible rfl)
          simp only [Act.put, List.setIfInBounds_toArray, List.set_cons_zero, List.set_cons_succ]
          refine take_at (i := 19) 222 (v := ?_) rfl rfl (by kernel_rfl) (by kernel_rfl) (by kernel_rfl) (fun _ _ _ h => h) (by rfl) ?_ hHeld ?_
          rotate_left
          · (intro w hSw; (try dsimp only at hSw); go_simp; try with_reducible rfl)
          simp only [Act.put, List.setIfInBounds_toArray, List.set_cons_zero, List.set_cons_succ]
          refine take_at (i := 20) 223 (v := ?_) rfl rfl (by kernel_rfl) (by kernel_rfl) (by kernel_rfl) (fun _ _ _ h => h) (by rfl) ?_ hHeld ?_
          rotate_left
          · (intro w hSw; (try dsimp only at hSw); go_simp; try with_reducible rfl)
          simp only [Act.put, List.setIfInBounds_toArray, List.set_cons_zero, List.set_cons_succ]
          refine take_at (i := 21) 224 (v := ?_) rfl rfl (by kernel_rfl) (by kernel_rfl) (by kernel_rfl) (fun _ _ _ h => h) (by rfl) ?_ hHeld ?_
          rotate_left
          · (intro w hSw; (try dsimp only at hSw); go_simp; try with_reducible rfl)
          simp only [Act.put, List.setIfInBounds_toArray, List.set_cons_zero, List.set_cons_succ]
          refine take_at (i := 22) 225 (v := .slice fa (sl bb).length fc) rfl rfl (by kernel_rfl) (by kernel_rfl) (by kernel_rfl) (fun _ _ _ h => h) (by rfl) ?_ hHeld ?_
          · (intro w hSw; obtain ⟨⟨hc9, -⟩, -, -⟩ := HC.out _ hSw; go_simp; try with_reducible rfl)
          simp only [Act.put, List.setIfInBounds_toArray, List.set_cons_zero, List.set_cons_succ]
          refine take_at (i := 23) 226 (v := .string ⟨(sl bb).toArray⟩) rfl rfl (by kernel_rfl) (by kernel_rfl) (by kernel_rfl) (fun _ _ _ h => h) (by rfl) ?_ hHeld ?_
          · (intro w hSw; have h9 := HCV.out _ hSw; go_simp; try with_reducible rfl)
          simp only [Act.put, List.setIfInBounds_toArray, List.set_cons_zero, List.set_cons_succ]
          refine run_at (i := 16) rfl (by kernel_rfl) (by rfl) (fun K hK => ?_)
          simp only [List.getElem_toArray, List.getElem_cons_zero, List.getElem_cons_succ]
          go_simp
          (go_at_call 16; refine Calls.mono (burst_any fa fc (sl bb) oat om _ (HBY3.out.below hHeld).rd HBY3.out.nil (by omega) HOK.out.ha.1 HOK.out.ha.2 (by have h9 := HOK.out.hm; simp only at h9; omega)) ?_; rintro e w5 ⟨u5, rfl, hown5, hb5'⟩; rw [← HY.out] at hown5; have hb5 : Below w3.heap.size w3 w5 := ⟨hb5'.os, hb5'.tape, hb5'.output, hb5'.size, hb5'.block⟩; clear hb5'; obtain ⟨a5, c5, hu5, -, -, -, hr5, -⟩ := hown5.val; subst hu5; have hcv5 := conv_rd' hr5 _ c5 rfl; have HB5 : Hid _ := hb5; clear hown5 hb5 hr5)
          go_wp2_with fail
          refine hK.out _ _ (by first | exact (Below.refl _ _).drew | exact HB5.out) ?_
          clear hK K
          intro hHeld2
          clear hHeld
          have hHeld := hHeld2
          clear hHeld2
          try simp only [Act.put, List.setIfInBounds_toArray, List.set_cons_zero, List.set_cons_succ]
          refine val_at (i := 17) 220 (v := .string ⟨Y.toArray⟩) rfl rfl (by kernel_rfl) (by rfl) ?_ ?_ ?_
          · (go_simp; try with_reducible rfl)
          · (first | exact (Below.refl _ _).drew | exact HB5.out)
          intro hHeld2
          clear hHeld
          have hHeld := hHeld2
          clear hHeld2
          simp only [Act.put, List.setIfInBounds_toArray, List.set_cons_zero, List.set_cons_succ]
          refine take_at (i := 24) 227 (v := ?_) rfl rfl (by kernel_rfl) (by kernel_rfl) (by kernel_rfl) (fun _ _ _ h => h) (by rfl) ?_ hHeld ?_
          rotate_left
          · (intro w hSw; (try dsimp only at hSw); go_simp; try with_reducible rfl)
          simp only [Act.put, List.setIfInBounds_toArray, List.set_cons_zero, List.set_cons_succ]
          refine take_at (i := 25) 228 (v := ?_) rfl rfl (by kernel_rfl) (by kernel_rfl) (by kernel_rfl) (fun _ _ _ h => h) (by rfl) ?_ hHeld ?_
          rotate_left
          · (intro w hSw; (try dsimp only at hSw); go_simp; try with_reducible rfl)
          simp only [Act.put, List.setIfInBounds_toArray, List.set_cons_zero, List.set_cons_succ]
          refine wpAnyH_done (by kernel_rfl) ?_ _
          refine NoPanic.normal ?_
          have HP5 : Hid _ := HP3.out.below HB5.out
          have HBK5 : Hid _ := HBK3.out.below HB5.out
          have HB55 : Hid _ := HB3.out.trans (HB5.out.mono HB3.out.size)
          have HBY5 : Hid _ := HBY3.out.below HB5.out
          have hr5 := HBK5.out.rowat rfl HF2.out
          have x1 : w5.cell? ⟨g, kk * 3 + 1, none⟩ = some (.int .i64 bb.at_) := hr5 1 _ rfl
          have x2 : w5.cell? ⟨g, kk * 3 + 2, none⟩ = some (.int .u32 (bb.m : Int)) := hr5 2 _ rfl
          have f1 : w5.frozen? ⟨g, kk * 3 + 1, none⟩ = false := HBK5.out.row.fz _
          have f2 : w5.frozen? ⟨g, kk * 3 + 2, none⟩ = false := HBK5.out.row.fz _
          have h8 := opcell ((HB5.out.block _ (Array.getElem?_eq_some_iff.1 HX3.out).1).trans HX3.out)
          have y3 : w5.cell? ⟨wr.heap.size, 3, none⟩ = some (.int .i64 oat) := h8.2.2.2.1
          have y4 : w5.cell? ⟨wr.heap.size, 4, none⟩ = some (.int .u32 (om : Int)) := h8.2.2.2.2
          have hgx : ¬ g = wr.heap.size := fun e => by
            obtain ⟨cur, h1⟩ := HBK5.out.row.at_ (b := g) rfl
            have h2 := (HB5.out.block _ (Array.getElem?_eq_some_iff.1 HX3.out).1).trans HX3.out
            rw [← e] at h2
            exact absurd (ty_of h1 h2) (by decide)
          have hgx2 : ¬ wr.heap.size = g := fun e => hgx e.symm
          clear hcv5 hr5 h8
          go_upto_region 57 with fail
          have hkF : kk < F.length := by rw [HBK5.out.len]; exact HKL.out
          have hFk : F[kk]'hkF = ⟨fa, (sl bb).length, fc, bb.at_, bb.m⟩ := Option.some.inj ((List.getElem?_eq_getElem hkF).symm.trans HF2.out)
          have r1 := OwnG.setc (K := KS) HBK5.out.row (by rw [HBK5.out.len]; exact HNB.out) kk 1 hkF (by decide) ⟨fa, (sl bb).length, fc, oat, bb.m⟩ (.int .i64 oat) (by rw [hFk]; rfl)
          have r2 := OwnG.setc (K := KS) r1 (by rw [List.length_set, HBK5.out.len]; exact HNB.out) kk 2 (by rw [List.length_set]; exact hkF) (by decide) ⟨fa, (sl bb).length, fc, oat, om⟩ (.int .u32 (om : Int)) (by rw [List.getElem_set_self]; rfl)
          rw [List.set_set] at r2
          obtain ⟨w6, hw6⟩ : ∃ w6, w6 = (w5.setCell ⟨g, kk * 3 + 1, none⟩ (.int .i64 oat)).setCell ⟨g, kk * 3 + 2, none⟩ (.int .u32 (om : Int)) := ⟨_, rfl⟩
          have hg6 : w5.grownBy w6 (some g) := by rw [hw6]; exact grow_trans (gset1 w5 g _ _) (gset1 _ g _ _)
          have r3 : OwnG KS w6 w.heap.size (.slice (some ⟨g, 0, none⟩) N bc) (F.set kk ⟨fa, (sl bb).length, fc, oat, om⟩) := by rw [hw6]; exact r2
          have HBK6 : Hid (Bok w6 w.heap.size (.slice (some ⟨g, 0, none⟩) N bc) (F.set kk ⟨fa, (sl bb).length, fc, oat, om⟩) (Bs.set kk ⟨bb.tx, oat, om⟩)) := HBK5.out.setk hg6 kk r3 ⟨rfl, rfl, HBY5.out.bk HBK5.out hg6, ⟨HOK9.out.l, HOK.out.hm, HOK.out.ha, fun _ => HIB.out⟩⟩
          have HP6 : Hid _ := HP5.out.bk HBK5.out hg6
          have HB6 : Hid _ := HB55.out.grown hg6 HB55.out.size (fun j hj => by cases hj; exact (HBK5.out.row.lt' (b := g) rfl).1)
          have HL6 : Hid (((Bs.set kk ⟨bb.tx, oat, om⟩).map toD).length = N) := by unfold Hid; rw [List.length_map, List.length_set]; exact HNB.out.symm
          rw [← hw6]
          clear hw6 r1 r2 r3 hg6 x1 x2 f1 f2 y3 y4 hgx hgx2 hFk hkF
          go_wp2_with (go_at_call 9; refine Calls.mono (oLen' HP6.out HL6.out) ?_; rintro e w9 ⟨rfl, hq⟩; have hq := hq.symm; subst hq)
          refine ⟨?_, ?_⟩
          · unfold WI
            iterate 305 (apply Exists.intro)
            exact ⟨⟨k + 1, _, _, by omega, by go_num, HBK6.out, HP6.out, HB6.out⟩, rfl⟩
          · simp [Wmu, intOf]; omega
  · have hmb : ((bb.m : Int) == 0) = false := by simp; omega
    have hmd : decide (bb.m ≠ 0) = true := by simp [hm0]
    rw [hmd] at hP2 ⊢
    clear hm0 hmd
    obtain ⟨ez, hez, hez0⟩ : ∃ ez : Int, (if wOk (sl bb).length oat om = true then (if true = true then (3 : Int) else 0) else 1) = ez ∧ ez ≠ 0 := ⟨_, rfl, by split <;> decide⟩
    rw [hez]
    have hezb : (ez == 0) = false := by simpa using hez0
    have HP2 : Hid (On SP w.heap.size X0 w2 w.heap.size R (Bs.map toD)) := by
      unfold Hid
      rcases hwk : wOk (sl bb).length oat om with _ | _
      · rw [hwk] at hP2; exact hP2
      · rw [hwk] at hP2; exact hP2
    clear hez hez0 hP2
    focus
      go_wp2
      go_quiet ((go_at_call 19; exact Calls.quiet_of_same (HIN.out _)))
      have HPd : Hid _ := HP2.out.below (below_drewN _ nq)
      have HBKd : Hid _ := HBK2.out.below (below_drewN _ nq)
      have HBd : Hid _ := HB2.out.trans ((below_drewN w2 nq).mono HB2.out.size)
      have HLd : Hid ((Bs.map toD).length = N) := by unfold Hid; rw [List.length_map]; exact HNB.out.symm
      go_wp2_with (go_at_call 9; refine Calls.mono (oLen' HPd.out HLd.out) ?_; rintro e w9 ⟨rfl, hq⟩; have hq := hq.symm; subst hq)
      refine ⟨?_, ?_⟩
      · unfold WI
        iterate 305 (apply Exists.intro)
        exact ⟨⟨k + 1, F, Bs, by omega, by go_num, HBKd.out, HPd.out, HBd.out⟩, rfl⟩
      · simp [Wmu, intOf]; omega
end Go.Proofs.YtnpcgegcoakbmaaDoor
