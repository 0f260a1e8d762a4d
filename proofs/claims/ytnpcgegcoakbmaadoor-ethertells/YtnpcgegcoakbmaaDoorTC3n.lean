import Derived.Test.YtnpcgegcoakbmaaDoorTEw
namespace Go.Proofs.YtnpcgegcoakbmaaDoor
set_option linter.unusedVariables false
set_option linter.unusedSimpArgs false
open Go.RowKit
set_option maxRecDepth 100000 in
set_option maxHeartbeats 12800000 in
theorem tcase3n (r : Int) (ta : Option Addr) (tcap : Nat) (ts : List Tx) (ao : Option Addr) (cap : Nat) (xs : List OpD) (w : World) (R : Nat) (hRm : R ≤ 1024) (hR0 : 1 ≤ R) (htl : ts.length ≤ 8796093022208) (hl : xs.length ≤ 4398046511103) (HRo : Hid (RdO w ao xs)) (HRt : Hid (RdT w ta ts)) (HTZ : Hid (∀ u, Below w.heap.size w u → TabZ u)) (HTO : Hid (∀ u, Below w.heap.size w u → TabOk u))
    (u6 u9 u12 u13 u14 u15 u16 u17 u18 u19 u20 u21 u22 u23 u24 u25 u26 u27 u28 u29 u30 u31 u32 u33 u34 u35 u36 u37 u38 u39 u40 u41 u42 u43 u44 u45 u46 u47 u48 u49 u50 u51 u52 u53 u54 u55 u56 u57 u58 u59 u60 u61 u62 u63 u64 u65 u66 u67 u68 u69 u70 u71 u72 u73 u74 u75 u76 u77 u78 u79 u80 u81 u82 u83 u84 u85 u86 u87 u88 u89 u90 u91 u92 u93 u94 u95 u96 u97 u98 u99 u100 u101 u102 u103 u104 u105 u106 u107 u108 u109 u110 u111 u112 u113 u114 u115 u116 u117 u118 u119 u120 u121 u122 u123 u124 u125 u126 u127 u128 u129 u130 u131 u132 u133 u134 u135 u136 u137 u138 u139 u140 u141 u142 u143 u144 u145 u146 u147 u148 u149 u150 u151 u152 u153 u154 u155 u156 u157 u158 u159 u160 u161 u162 u163 u164 u165 u166 u167 u168 u169 u170 u171 u172 u173 u174 u175 u176 u177 u178 u179 u180 u181 u182 u183 u184 u185 u186 u187 u188 u189 u190 u191 u192 u193 u194 u195 u196 u197 u198 u199 u200 u201 u202 u203 u204 u205 u206 u207 u208 u209 u210 u211 u212 u213 u214 u215 u216 u217 u218 u219 u220 u221 u222 u223 u224 u225 u226 u227 u228 u229 u230 u231 u232 u233 u234 u235 u236 u237 u238 u239 u240 u241 u242 u243 u244 u245 u246 u247 u248 u249 u250 u251 u252 u253 u254 u255 u256 u257 u258 u259 u260 u261 u262 u263 u264 u265 u266 u267 u268 u269 u270 u271 u272 u273 u274 u275 u276 u277 u278 u279 u280 u281 u282 u283 u284 u285 u286 u287 u288 u289 u290 u291 u292 u293 u294 u295 u296 u297 u298 u299 u300 u301 u302 u303 u304 u305 u306 u307 u308 u309 u310 u311 u312 : Value) (wr : World) (k : Nat) (F : List Sc) (Bs : List Bk) (ba : Option Addr) (N bc : Nat) (hk : k ≤ xs.length) (hNbc : N ≤ bc) (HNB : Hid (N = Bs.length)) (hNR : N ≤ R) (HBK : Hid (Bok wr w.heap.size (.slice ba N bc) F Bs)) (HP : Hid (On SP w.heap.size X0 wr w.heap.size R (Bs.map toD))) (HB : Hid (Below w.heap.size w wr)) (hlt : k < xs.length) (hkd : xs[k].kd = 3) (hN0 : ¬ N = 0) (Q0 : Exit → Act → World → Prop) :
    Code.wp Tryd.prog (TB Tryd.f5.body) (Exit.then (fun a' w'' => WI r ta tcap ts ao cap xs w R a' w'' ∧ Wmu xs.length a' w'' < Wmu xs.length ⟨#[.int .i64 r, .slice ta ts.length tcap, .slice ao xs.length cap, undef, undef, undef, u6, .int .i64 (R : Int), .pointer (some ⟨w.heap.size, 0, none⟩), u9, .slice ba N bc, .int .i64 k, u12, u13, u14, u15, u16, u17, u18, u19, u20, u21, u22, u23, u24, u25, u26, u27, u28, u29, u30, u31, u32, u33, u34, u35, u36, u37, u38, u39, u40, u41, u42, u43, u44, u45, u46, u47, u48, u49, u50, u51, u52, u53, u54, u55, u56, u57, u58, u59, u60, u61, u62, u63, u64, u65, u66, u67, u68, u69, u70, u71, u72, u73, u74, u75, u76, u77, u78, u79, u80, u81, u82, u83, u84, u85, u86, u87, u88, u89, u90, u91, u92, u93, u94, u95, u96, u97, u98, u99, u100, u101, u102, u103, u104, u105, u106, u107, u108, u109, u110, u111, u112, u113, u114, u115, u116, u117, u118, u119, u120, u121, u122, u123, u124, u125, u126, u127, u128, u129, u130, u131, u132, u133, u134, u135, u136, u137, u138, u139, u140, u141, u142, u143, u144, u145, u146, u147, u148, u149, u150, u151, u152, u153, u154, u155, u156, u157, u158, u159, u160, u161, u162, u163, u164, u165, u166, u167, u168, u169, u170, u171, u172, u173, u174, u175, u176, u177, u178, u179, u180, u181, u182, u183, u184, u185, u186, u187, u188, u189, u190, u191, u192, u193, u194, u195, u196, u197, u198, u199, u200, u201, u202, u203, u204, u205, u206, u207, u208, u209, u210, u211, u212, u213, u214, u215, u216, u217, u218, u219, u220, u221, u222, u223, u224, u225, u226, u227, u228, u229, u230, u231, u232, u233, u234, u235, u236, u237, u238, u239, u240, u241, u242, u243, u244, u245, u246, u247, u248, u249, u250, u251, u252, u253, u254, u255, u256, u257, u258, u259, u260, u261, u262, u263, u264, u265, u266, u267, u268, u269, u270, u271, u272, u273, u274, u275, u276, u277, u278, u279, u280, u281, u282, u283, u284, u285, u286, u287, u288, u289, u290, u291, u292, u293, u294, u295, u296, u297, u298, u299, u300, u301, u302, u303, u304, u305, u306, u307, u308, u309, u310, u311, u312, undef, undef, undef, undef, undef, undef, undef, undef, undef, undef, undef, undef, undef, undef, undef, undef, undef, undef, undef, undef, undef, undef, undef, undef, undef], []⟩ wr) Q0) ⟨#[.int .i64 r, .slice ta ts.length tcap, .slice ao xs.length cap, undef, undef, undef, u6, .int .i64 (R : Int), .pointer (some ⟨w.heap.size, 0, none⟩), u9, .slice ba N bc, .int .i64 k, u12, u13, u14, u15, u16, u17, u18, u19, u20, u21, u22, u23, u24, u25, u26, u27, u28, u29, u30, u31, u32, u33, u34, u35, u36, u37, u38, u39, u40, u41, u42, u43, u44, u45, u46, u47, u48, u49, u50, u51, u52, u53, u54, u55, u56, u57, u58, u59, u60, u61, u62, u63, u64, u65, u66, u67, u68, u69, u70, u71, u72, u73, u74, u75, u76, u77, u78, u79, u80, u81, u82, u83, u84, u85, u86, u87, u88, u89, u90, u91, u92, u93, u94, u95, u96, u97, u98, u99, u100, u101, u102, u103, u104, u105, u106, u107, u108, u109, u110, u111, u112, u113, u114, u115, u116, u117, u118, u119, u120, u121, u122, u123, u124, u125, u126, u127, u128, u129, u130, u131, u132, u133, u134, u135, u136, u137, u138, u139, u140, u141, u142, u143, u144, u145, u146, u147, u148, u149, u150, u151, u152, u153, u154, u155, u156, u157, u158, u159, u160, u161, u162, u163, u164, u165, u166, u167, u168, u169, u170, u171, u172, u173, u174, u175, u176, u177, u178, u179, u180, u181, u182, u183, u184, u185, u186, u187, u188, u189, u190, u191, u192, u193, u194, u195, u196, u197, u198, u199, u200, u201, u202, u203, u204, u205, u206, u207, u208, u209, u210, u211, u212, u213, u214, u215, u216, u217, u218, u219, u220, u221, u222, u223, u224, u225, u226, u227, u228, u229, u230, u231, u232, u233, u234, u235, u236, u237, u238, u239, u240, u241, u242, u243, u244, u245, u246, u247, u248, u249, u250, u251, u252, u253, u254, u255, u256, u257, u258, u259, u260, u261, u262, u263, u264, u265, u266, u267, u268, u269, u270, u271, u272, u273, u274, u275, u276, u277, u278, u279, u280, u281, u282, u283, u284, u285, u286, u287, u288, u289, u290, u291, u292, u293, u294, u295, u296, u297, u298, u299, u300, u301, u302, u303, u304, u305, u306, u307, u308, u309, u310, u311, u312, undef, undef, undef, undef, undef, undef, undef, undef, undef, undef, undef, undef, undef, undef, undef, undef, undef, undef, undef, undef, undef, undef, undef, undef, undef], []⟩ wr := by
  conv => arg 2; whnf
  obtain ⟨b, o, rfl, hok, hrg⟩ := HRo.out k hlt
  obtain ⟨op, hop⟩ : ∃ op, op = xs[k] := ⟨_, rfl⟩
  rw [← hop] at hok hrg hkd
  obtain ⟨kd, oi, oat, om, oa, on, oc, oxs⟩ := op
  simp only at hkd
  subst hkd
  have HOK : Hid _ := hok
  have HRG : Hid _ := rangeAt_below hrg HB.out
  have hk0 : (0 : Int) ≤ (k : Int) := by omega
  have hkI : (k : Int) < (xs.length : Int) := by omega
  have hoi := hok.hi
  simp only at hoi
  obtain ⟨hoi0, hoi1⟩ := hoi
  clear hop hok hrg
  have hNp : (0 : Int) < (N : Int) := by omega
  obtain ⟨rr, kk, q1, q2, q3, q4, q5⟩ := mod_in oi N (by omega)
  have hkk0 : (0 : Int) ≤ (kk : Int) := by omega
  have hkkI : (kk : Int) < (N : Int) := by omega
  have hkm : kk < 1024 := by omega
  obtain ⟨g, rfl⟩ : ∃ g, ba = some ⟨g, 0, none⟩ := by
    obtain ⟨g, c', hv', -⟩ := HBK.out.row.one (by rw [HBK.out.len, ← HNB.out]; omega)
    simp only [Value.slice.injEq] at hv'
    exact ⟨g, hv'.1⟩
  have HKL : Hid (kk < Bs.length) := by unfold Hid; rw [← HNB.out]; exact q5
  obtain ⟨bb, hbb⟩ : ∃ bb, Bs[kk]? = some bb := ⟨_, List.getElem?_eq_getElem HKL.out⟩
  have HBB : Hid _ := hbb
  clear hbb
  go_upto_region 15 with (refine wpList_load_mid rfl tOp _ rfl b (o + k * 5) rfl (opl ⟨3, oi, oat, om, oa, on, oc, oxs⟩) _ HRG.out Tryd.underlying46 rfl size_op' ?_)
  obtain ⟨w1, hw1⟩ : ∃ w1, w1 = wr.alloc (.cells (opv 3 oa on oc oi oat om) tOp) := ⟨_, rfl⟩
  have hb1 : Below wr.heap.size wr w1 := by rw [hw1]; exact al (Below.refl _ _) _
  have hbx1 : w1.heap[wr.heap.size]? = some (.cells (opv 3 oa on oc oi oat om) tOp (0, 0)) := by rw [hw1]; exact heap_alloc_new wr _
  rw [← hw1]
  have hB1 : w.heap.size ≤ w1.heap.size := Nat.le_trans HB.out.size hb1.size
  have HP1 : Hid _ := HP.out.below hb1
  have HBK1 : Hid _ := HBK.out.below hb1
  have HB1 : Hid (Below w.heap.size w w1) := HB.out.trans (hb1.mono HB.out.size)
  have HX1 : Hid _ := hbx1
  obtain ⟨z0, -, z2, z3, z4⟩ := opcell hbx1
  clear hw1 hb1 hbx1
  go_wp2_with fail
  refine Calls.mono (oTake HP1.out (fun b hb => hb.elim) hB1 (kk : Int)) ?_
  rintro e w2 ⟨⟨u1, rfl, hown2⟩, hP2, hf2⟩
  rw [dropL_map HKL.out] at hP2
  rw [plE_map HKL.out]
  rw [lookX_map HBB.out] at hown2
  have HP2 : Hid _ := hP2
  have HBK2 : Hid _ := HBK1.out.fr hf2
  have HB2 : Hid _ := HB1.out.trans hf2.bel
  have hokb := (HBK2.out.at_ rfl HBB.out)
  obtain ⟨f, -, -, -, -, -, -, -, hok⟩ := hokb
  obtain ⟨Y, hY⟩ : ∃ Y, Y = (toD bb).xs := ⟨_, rfl⟩
  rw [← hY] at hown2
  obtain ⟨a1, c1, hu1, hlc1, hcm1, -, hr1, -⟩ := hown2.val
  subst hu1
  have hYl : Y.length ≤ 2048 := by rw [hY, toD_len]; have := hok.l; omega
  obtain ⟨rx, rq, hrq⟩ : ∃ rx rq, unS Y = (rx, rq) := ⟨_, _, rfl⟩
  have HRQ : Hid ((bb.m = 0 → rx = bb.tx ∧ rq = 0) ∧ (bb.m ≠ 0 → rq = 13)) := by
    have h9 := uns_toD bb hok
    rw [← hY, hrq] at h9
    refine ⟨fun h => ?_, fun h => ?_⟩
    · rw [if_pos h] at h9; cases h9; exact ⟨rfl, rfl⟩
    · rw [if_neg h] at h9; cases h9; rfl
  have HY : Hid _ := hY
  have HOK9 : Hid _ := hok
  have HO2 : Hid _ := hown2
  clear hP2 hf2 hown2 hY hok f
  go_wp2_with fail
  refine Calls.mono (unseal_n a1 _ c1 Y rfl rx rq hrq w2 hr1 hlc1 (by simpa [maxLen] using hcm1) (by omega) (HTO.out _ HB2.out)) ?_
  rintro e w3 ⟨v3, rfl, hown3, hb3⟩
  obtain ⟨a3, c3, hu3, -, -, -, -, -⟩ := hown3.val
  subst hu3
  have HP3 : Hid _ := HP2.out.below hb3
  have HBK3 : Hid _ := HBK2.out.below hb3
  have HB3 : Hid _ := HB2.out.trans (hb3.mono HB2.out.size)
  have HO3 : Hid _ := hown3
  have HOb3 : Hid _ := Own.below HO2.out hb3
  obtain ⟨f, hf, x0, x1, x2, hfb⟩ := HBK3.out.at_ rfl HBB.out
  obtain ⟨fa, fn, fc, fat, fm⟩ := f
  obtain ⟨hfa, hfm, hby, -⟩ := hfb
  simp only at hfa hfm
  subst hfa hfm
  have hn := hby.n
  simp only at hn
  subst hn
  have hsll : (sl bb).length ≤ 2048 := by rw [sl_len]; have := HOK9.out.l; omega
  have HBY3 : Hid _ := hby
  have HF3 : Hid _ := hf
  clear hown3 hb3 hrq hr1 hlc1 hcm1 hby hf
  go_wp2_with fail
  refine Calls.mono (unseal_n fa _ fc (sl bb) rfl bb.tx 0 (unS_seal _) w3 HBY3.out.rd HBY3.out.le (by have := HBY3.out.cm; simpa [maxLen] using this) (by omega) (HTO.out _ HB3.out)) ?_
  rintro e w4 ⟨v4, rfl, hown4, hb4⟩
  obtain ⟨a4, c4, hu4, -, -, -, -, -⟩ := hown4.val
  subst hu4
  have HP4 : Hid _ := HP3.out.below hb4
  have HBK4 : Hid _ := HBK3.out.below hb4
  have HB4 : Hid _ := HB3.out.trans (hb4.mono HB3.out.size)
  have HO4 : Hid (∀ u, Below w4.heap.size w4 u → Rd u a4 bb.tx) := fun u hu => Rd.below (Rd.of_own hown4) hu
  have HOc4 : Hid (∀ u, Below w4.heap.size w4 u → Rd u a3 rx) := fun u hu => Rd.below (Rd.of_own (Own.below HO3.out hb4)) hu
  have HOb4 : Hid (∀ u, Below w4.heap.size w4 u → Rd u a1 Y) := fun u hu => Rd.below (Rd.of_own (Own.below HOb3.out hb4)) hu
  have HBY4 : Hid _ := HBY3.out.below hb4
  have HRW : Hid (∀ u, Below w4.heap.size w4 u → u.rangeAt g (kk * 3) (scl ⟨fa, (sl bb).length, fc, bb.at_, bb.m⟩)) := fun u hu => rangeAt_below (HBK4.out.rowat rfl HF3.out) hu
  have HLD : Hid (∀ u, Below w4.heap.size w4 u → (Instr.loadAt tSn (.pointer (some ⟨g, kk * 3, none⟩))).run Tryd.prog u = .ok (.agg #[.slice fa (sl bb).length fc, .int .i64 bb.at_, .int .u32 (bb.m : Int)]) u) := fun u hu => run_loadAt_mid u _ _ _ (scl ⟨fa, (sl bb).length, fc, bb.at_, bb.m⟩) _ (HRW.out u hu) Tryd.underlying48 rfl size_sn
  have HCM : Hid (∀ u, Below w4.heap.size w4 u → u.cell? ⟨g, kk * 3 + 2, none⟩ = some (.int .u32 (bb.m : Int))) := fun u hu => HRW.out u hu 2 _ rfl
  have HCV1 : Hid (∀ u, Below w4.heap.size w4 u → _) := fun u hu => conv_rd' (HOb4.out u hu) _ c1 rfl
  have HCV3 : Hid (∀ u, Below w4.heap.size w4 u → _) := fun u hu => conv_rd' (HOc4.out u hu) _ c3 rfl
  have HCV4 : Hid (∀ u, Below w4.heap.size w4 u → _) := fun u hu => conv_rd' (HO4.out u hu) _ c4 rfl
  have HNOW : Hid _ := fun (u : World) (hu : Below w4.heap.size w4 u) => now_t (w := u) ⟨fa, (sl bb).length, fc, bb.at_, bb.m⟩ (sl bb) (HBY4.out.below hu) hsll HOK9.out.m HOK9.out.a
  have HYB : Hid (bst bb.at_ bb.m (sl bb) 32 = Y) := HY.out.symm
  clear hown4 hb4 x0 x1 x2
  go_wp2
  by_cases hm0 : bb.m = 0
  · obtain ⟨rfl, rfl⟩ := HRQ.out.1 hm0
    have hmb : ((bb.m : Int) == 0) = true := by simp [hm0]
    clear hm0
    focus
      refine wp_region_noPanic ?_
      refine wp_region_held_drew (S := (fun u => Below w4.heap.size w4 u)) (by kernel_rfl) (by first | exact (Below.refl _ _).drew | exact HB5.out) (fun hHeld => ?_)
      refine take_at (i := 0) 268 (v := ?_) rfl rfl (by kernel_rfl) (by kernel_rfl) (by kernel_rfl) (fun _ _ _ h => h) (by rfl) ?_ hHeld ?_
      rotate_left
      · (intro w hSw; (try dsimp only at hSw); go_simp; try with_reducible rfl)
      simp only [Act.put, List.setIfInBounds_toArray, List.set_cons_zero, List.set_cons_succ]
      refine take_at (i := 1) 269 (v := .string ⟨Y.toArray⟩) rfl rfl (by kernel_rfl) (by kernel_rfl) (by kernel_rfl) (fun _ _ _ h => h) (by rfl) ?_ hHeld ?_
      · (intro w hSw; have h9 := HCV1.out _ hSw; go_simp; try with_reducible rfl)
      simp only [Act.put, List.setIfInBounds_toArray, List.set_cons_zero, List.set_cons_succ]
      refine take_at (i := 2) 270 (v := ?_) rfl rfl (by kernel_rfl) (by kernel_rfl) (by kernel_rfl) (fun _ _ _ h => h) (by rfl) ?_ hHeld ?_
      rotate_left
      · (intro w hSw; (try dsimp only at hSw); go_simp; try with_reducible rfl)
      simp only [Act.put, List.setIfInBounds_toArray, List.set_cons_zero, List.set_cons_succ]
      refine take_at (i := 3) 271 (v := ?_) rfl rfl (by kernel_rfl) (by kernel_rfl) (by kernel_rfl) (fun _ _ _ h => h) (by rfl) ?_ hHeld ?_
      rotate_left
      · (intro w hSw; (try dsimp only at hSw); go_simp; try with_reducible rfl)
      simp only [Act.put, List.setIfInBounds_toArray, List.set_cons_zero, List.set_cons_succ]
      refine take_at (i := 4) 272 (v := ?_) rfl rfl (by kernel_rfl) (by kernel_rfl) (by kernel_rfl) (fun _ _ _ h => h) (by rfl) ?_ hHeld ?_
      rotate_left
      · (intro w hSw; (try dsimp only at hSw); go_simp; try with_reducible rfl)
      simp only [Act.put, List.setIfInBounds_toArray, List.set_cons_zero, List.set_cons_succ]
      refine take_at (i := 5) 273 (v := .agg #[.slice fa (sl bb).length fc, .int .i64 bb.at_, .int .u32 (bb.m : Int)]) rfl rfl (by kernel_rfl) (by kernel_rfl) (by kernel_rfl) (fun _ _ _ h => h) (by rfl) ?_ hHeld ?_
      · (intro w hSw; refine exec_load (by rfl) ?_; exact HLD.out w hSw)
      simp only [Act.put, List.setIfInBounds_toArray, List.set_cons_zero, List.set_cons_succ]
      refine run_at (i := 6) rfl (by kernel_rfl) (by rfl) (fun K hK => ?_)
      simp only [List.getElem_toArray, List.getElem_cons_zero, List.getElem_cons_succ]
      go_simp
      (go_at_call 21; refine Calls.mono (HNOW.out _ hHeld) ?_; rintro e w5 ⟨u5, rfl, hown5, hb5'⟩; rw [HYB.out] at hown5; have hb5 : Below w4.heap.size w4 w5 := ⟨hb5'.os, hb5'.tape, hb5'.output, hb5'.size, hb5'.block⟩; clear hb5'; obtain ⟨a5, c5, hu5, -, -, -, hr5, -⟩ := hown5.val; subst hu5; have hcv5 := conv_rd' hr5 _ c5 rfl; have HB5 : Hid _ := hb5; clear hown5 hb5 hr5)
      go_wp2_with fail
      refine hK.out _ _ (by first | exact (Below.refl _ _).drew | exact HB5.out) ?_
      clear hK K
      intro hHeld2
      clear hHeld
      have hHeld := hHeld2
      clear hHeld2
      try simp only [Act.put, List.setIfInBounds_toArray, List.set_cons_zero, List.set_cons_succ]
      refine val_at (i := 7) 275 (v := .string ⟨Y.toArray⟩) rfl rfl (by kernel_rfl) (by rfl) ?_ ?_ ?_
      · (go_simp; try with_reducible rfl)
      · (first | exact (Below.refl _ _).drew | exact HB5.out)
      intro hHeld2
      clear hHeld
      have hHeld := hHeld2
      clear hHeld2
      simp only [Act.put, List.setIfInBounds_toArray, List.set_cons_zero, List.set_cons_succ]
      refine take_at (i := 8) 276 (v := ?_) rfl rfl (by kernel_rfl) (by kernel_rfl) (by kernel_rfl) (fun _ _ _ h => h) (by rfl) ?_ hHeld ?_
      rotate_left
      · (intro w hSw; (try dsimp only at hSw); go_simp; try with_reducible rfl)
      simp only [Act.put, List.setIfInBounds_toArray, List.set_cons_zero, List.set_cons_succ]
      refine take_at (i := 9) 277 (v := ?_) rfl rfl (by kernel_rfl) (by kernel_rfl) (by kernel_rfl) (fun _ _ _ h => h) (by rfl) ?_ hHeld ?_
      rotate_left
      · (intro w hSw; (try dsimp only at hSw); go_simp; try with_reducible rfl)
      simp only [Act.put, List.setIfInBounds_toArray, List.set_cons_zero, List.set_cons_succ]
      refine take_at (i := 10) 278 (v := ?_) rfl rfl (by kernel_rfl) (by kernel_rfl) (by kernel_rfl) (fun _ _ _ h => h) (by rfl) ?_ hHeld ?_
      rotate_left
      · (intro w hSw; (try dsimp only at hSw); go_simp; try with_reducible rfl)
      simp only [Act.put, List.setIfInBounds_toArray, List.set_cons_zero, List.set_cons_succ]
      refine take_at (i := 11) 279 (v := ?_) rfl rfl (by kernel_rfl) (by kernel_rfl) (by kernel_rfl) (fun _ _ _ h => h) (by rfl) ?_ hHeld ?_
      rotate_left
      · (intro w hSw; (try dsimp only at hSw); go_simp; try with_reducible rfl)
      simp only [Act.put, List.setIfInBounds_toArray, List.set_cons_zero, List.set_cons_succ]
      refine take_at (i := 12) 280 (v := ?_) rfl rfl (by kernel_rfl) (by kernel_rfl) (by kernel_rfl) (fun _ _ _ h => h) (by rfl) ?_ hHeld ?_
      rotate_left
      · (intro w hSw; (try dsimp only at hSw); go_simp; try with_reducible rfl)
      simp only [Act.put, List.setIfInBounds_toArray, List.set_cons_zero, List.set_cons_succ]
      refine take_at (i := 13) 281 (v := ?_) rfl rfl (by kernel_rfl) (by kernel_rfl) (by kernel_rfl) (fun _ _ _ h => h) (by rfl) ?_ hHeld ?_
      rotate_left
      · (intro w hSw; (try dsimp only at hSw); go_simp; try with_reducible rfl)
      simp only [Act.put, List.setIfInBounds_toArray, List.set_cons_zero, List.set_cons_succ]
      refine take_at (i := 14) 282 (v := ?_) rfl rfl (by kernel_rfl) (by kernel_rfl) (by kernel_rfl) (fun _ _ _ h => h) (by rfl) ?_ hHeld ?_
      rotate_left
      · (intro w hSw; (try dsimp only at hSw); go_simp; try with_reducible rfl)
      simp only [Act.put, List.setIfInBounds_toArray, List.set_cons_zero, List.set_cons_succ]
      refine take_at (i := 15) 283 (v := ?_) rfl rfl (by kernel_rfl) (by kernel_rfl) (by kernel_rfl) (fun _ _ _ h => h) (by rfl) ?_ hHeld ?_
      rotate_left
      · (intro w hSw; (try dsimp only at hSw); go_simp; try with_reducible rfl)
      simp only [Act.put, List.setIfInBounds_toArray, List.set_cons_zero, List.set_cons_succ]
      refine take_at (i := 16) 284 (v := .int .u32 (bb.m : Int)) rfl rfl (by kernel_rfl) (by kernel_rfl) (by kernel_rfl) (fun _ _ _ h => h) (by rfl) ?_ hHeld ?_
      · (intro w hSw; have h9 := HCM.out _ hSw; go_simp; try with_reducible rfl)
      simp only [Act.put, List.setIfInBounds_toArray, List.set_cons_zero, List.set_cons_succ]
      refine take_at (i := 17) 285 (v := ?_) rfl rfl (by kernel_rfl) (by kernel_rfl) (by kernel_rfl) (fun _ _ _ h => h) (by rfl) ?_ hHeld ?_
      rotate_left
      · (intro w hSw; (try dsimp only at hSw); go_simp; try with_reducible rfl)
      simp only [Act.put, List.setIfInBounds_toArray, List.set_cons_zero, List.set_cons_succ]
      refine take_at (i := 18) 286 (v := ?_) rfl rfl (by kernel_rfl) (by kernel_rfl) (by kernel_rfl) (fun _ _ _ h => h) (by rfl) ?_ hHeld ?_
      rotate_left
      · (intro w hSw; (try dsimp only at hSw); go_simp; try with_reducible rfl)
      simp only [Act.put, List.setIfInBounds_toArray, List.set_cons_zero, List.set_cons_succ]
      refine take_at (i := 19) 287 (v := ?_) rfl rfl (by kernel_rfl) (by kernel_rfl) (by kernel_rfl) (fun _ _ _ h => h) (by rfl) ?_ hHeld ?_
      rotate_left
      · (intro w hSw; (try dsimp only at hSw); go_simp; try with_reducible rfl)
      simp only [Act.put, List.setIfInBounds_toArray, List.set_cons_zero, List.set_cons_succ]
      refine take_at (i := 20) 288 (v := ?_) rfl rfl (by kernel_rfl) (by kernel_rfl) (by kernel_rfl) (fun _ _ _ h => h) (by rfl) ?_ hHeld ?_
      rotate_left
      · (intro w hSw; (try dsimp only at hSw); go_simp; try with_reducible rfl)
      simp only [Act.put, List.setIfInBounds_toArray, List.set_cons_zero, List.set_cons_succ]
      refine take_at (i := 21) 289 (v := ?_) rfl rfl (by kernel_rfl) (by kernel_rfl) (by kernel_rfl) (fun _ _ _ h => h) (by rfl) ?_ hHeld ?_
      rotate_left
      · (intro w hSw; (try dsimp only at hSw); go_simp; try with_reducible rfl)
      simp only [Act.put, List.setIfInBounds_toArray, List.set_cons_zero, List.set_cons_succ]
      refine take_at (i := 22) 290 (v := ?_) rfl rfl (by kernel_rfl) (by kernel_rfl) (by kernel_rfl) (fun _ _ _ h => h) (by rfl) ?_ hHeld ?_
      rotate_left
      · (intro w hSw; (try dsimp only at hSw); go_simp; try with_reducible rfl)
      simp only [Act.put, List.setIfInBounds_toArray, List.set_cons_zero, List.set_cons_succ]
      refine take_at (i := 23) 291 (v := ?_) rfl rfl (by kernel_rfl) (by kernel_rfl) (by kernel_rfl) (fun _ _ _ h => h) (by rfl) ?_ hHeld ?_
      rotate_left
      · (intro w hSw; (try dsimp only at hSw); go_simp; try with_reducible rfl)
      simp only [Act.put, List.setIfInBounds_toArray, List.set_cons_zero, List.set_cons_succ]
      refine take_at (i := 24) 292 (v := ?_) rfl rfl (by kernel_rfl) (by kernel_rfl) (by kernel_rfl) (fun _ _ _ h => h) (by rfl) ?_ hHeld ?_
      rotate_left
      · (intro w hSw; (try dsimp only at hSw); go_simp; try with_reducible rfl)
      simp only [Act.put, List.setIfInBounds_toArray, List.set_cons_zero, List.set_cons_succ]
      refine take_at (i := 25) 293 (v := .string ⟨bb.tx.toArray⟩) rfl rfl (by kernel_rfl) (by kernel_rfl) (by kernel_rfl) (fun _ _ _ h => h) (by rfl) ?_ hHeld ?_
      · (intro w hSw; have h9 := HCV3.out _ hSw; go_simp; try with_reducible rfl)
      simp only [Act.put, List.setIfInBounds_toArray, List.set_cons_zero, List.set_cons_succ]
      refine take_at (i := 26) 294 (v := ?_) rfl rfl (by kernel_rfl) (by kernel_rfl) (by kernel_rfl) (fun _ _ _ h => h) (by rfl) ?_ hHeld ?_
      rotate_left
      · (intro w hSw; (try dsimp only at hSw); go_simp; try with_reducible rfl)
      simp only [Act.put, List.setIfInBounds_toArray, List.set_cons_zero, List.set_cons_succ]
      refine take_at (i := 27) 295 (v := .string ⟨bb.tx.toArray⟩) rfl rfl (by kernel_rfl) (by kernel_rfl) (by kernel_rfl) (fun _ _ _ h => h) (by rfl) ?_ hHeld ?_
      · (intro w hSw; have h9 := HCV4.out _ hSw; go_simp; try with_reducible rfl)
      simp only [Act.put, List.setIfInBounds_toArray, List.set_cons_zero, List.set_cons_succ]
      refine take_at (i := 28) 296 (v := ?_) rfl rfl (by kernel_rfl) (by kernel_rfl) (by kernel_rfl) (fun _ _ _ h => h) (by rfl) ?_ hHeld ?_
      rotate_left
      · (intro w hSw; (try dsimp only at hSw); go_simp; try with_reducible rfl)
      simp only [Act.put, List.setIfInBounds_toArray, List.set_cons_zero, List.set_cons_succ]
      refine take_at (i := 29) 297 (v := ?_) rfl rfl (by kernel_rfl) (by kernel_rfl) (by kernel_rfl) (fun _ _ _ h => h) (by rfl) ?_ hHeld ?_
      rotate_left
      · (intro w hSw; (try dsimp only at hSw); go_simp; try with_reducible rfl)
      simp only [Act.put, List.setIfInBounds_toArray, List.set_cons_zero, List.set_cons_succ]
      refine take_at (i := 30) 298 (v := ?_) rfl rfl (by kernel_rfl) (by kernel_rfl) (by kernel_rfl) (fun _ _ _ h => h) (by rfl) ?_ hHeld ?_
      rotate_left
      · (intro w hSw; (try dsimp only at hSw); go_simp; try with_reducible rfl)
      simp only [Act.put, List.setIfInBounds_toArray, List.set_cons_zero, List.set_cons_succ]
      refine wpAnyH_done (by kernel_rfl) ?_ _
      refine NoPanic.normal ?_
      have HP6 : Hid _ := HP4.out.below HB5.out
      have HBK6 : Hid _ := HBK4.out.below HB5.out
      have HB6 : Hid _ := HB4.out.trans (HB5.out.mono HB4.out.size)
      clear hcv5
      go_wp2_with fail
      refine Calls.mono (without_t HBK6.out kk HKL.out (by rw [← HNB.out]; omega) HB6.out.size) ?_
      rintro e w7 ⟨v7, rfl, hbk7, hb7⟩
      obtain ⟨a7, c7, hv7, -, -, -, -⟩ := hbk7.row.val
      rw [hbk7.len, List.length_eraseIdx_of_lt HKL.out, ← HNB.out] at hv7
      obtain ⟨M, hM⟩ : ∃ M, M = N - 1 := ⟨_, rfl⟩
      rw [← hM] at hv7
      subst hv7
      have HBK7 : Hid _ := hbk7
      have HP7 : Hid _ := HP6.out.below hb7
      have HB7 : Hid _ := HB6.out.trans (hb7.mono HB6.out.size)
      have HL7 : Hid (((Bs.eraseIdx kk).map toD).length = M) := by unfold Hid; rw [List.length_map, List.length_eraseIdx_of_lt HKL.out, ← HNB.out, hM]
      have hMR : ¬ (R : Int) < (M : Int) := by omega
      clear hbk7 hb7 hM
      go_wp2_with (go_at_call 9; refine Calls.mono (oLen' HP7.out HL7.out) ?_; rintro e w9 ⟨rfl, hq⟩; have hq := hq.symm; subst hq)
      refine ⟨?_, ?_⟩
      · unfold WI
        iterate 305 (apply Exists.intro)
        exact ⟨⟨k + 1, _, _, by omega, by go_num, HBK7.out, HP7.out, HB7.out⟩, rfl⟩
      · simp [Wmu, intOf]; omega
  · obtain rfl := HRQ.out.2 hm0
    have hmb : ((bb.m : Int) == 0) = false := by simp; omega
    clear hm0
    focus
      refine wp_region_noPanic ?_
      refine wp_region_held_drew (S := (fun u => Below w4.heap.size w4 u)) (by kernel_rfl) (by first | exact (Below.refl _ _).drew | exact HB5.out) (fun hHeld => ?_)
      refine take_at (i := 0) 268 (v := ?_) rfl rfl (by kernel_rfl) (by kernel_rfl) (by kernel_rfl) (fun _ _ _ h => h) (by rfl) ?_ hHeld ?_
      rotate_left
      · (intro w hSw; (try dsimp only at hSw); go_simp; try with_reducible rfl)
      simp only [Act.put, List.setIfInBounds_toArray, List.set_cons_zero, List.set_cons_succ]
      refine take_at (i := 1) 269 (v := .string ⟨Y.toArray⟩) rfl rfl (by kernel_rfl) (by kernel_rfl) (by kernel_rfl) (fun _ _ _ h => h) (by rfl) ?_ hHeld ?_
      · (intro w hSw; have h9 := HCV1.out _ hSw; go_simp; try with_reducible rfl)
      simp only [Act.put, List.setIfInBounds_toArray, List.set_cons_zero, List.set_cons_succ]
      refine take_at (i := 2) 270 (v := ?_) rfl rfl (by kernel_rfl) (by kernel_rfl) (by kernel_rfl) (fun _ _ _ h => h) (by rfl) ?_ hHeld ?_
      rotate_left
      · (intro w hSw; (try dsimp only at hSw); go_simp; try with_reducible rfl)
      simp only [Act.put, List.setIfInBounds_toArray, List.set_cons_zero, List.set_cons_succ]
      refine take_at (i := 3) 271 (v := ?_) rfl rfl (by kernel_rfl) (by kernel_rfl) (by kernel_rfl) (fun _ _ _ h => h) (by rfl) ?_ hHeld ?_
      rotate_left
      · (intro w hSw; (try dsimp only at hSw); go_simp; try with_reducible rfl)
      simp only [Act.put, List.setIfInBounds_toArray, List.set_cons_zero, List.set_cons_succ]
      refine take_at (i := 4) 272 (v := ?_) rfl rfl (by kernel_rfl) (by kernel_rfl) (by kernel_rfl) (fun _ _ _ h => h) (by rfl) ?_ hHeld ?_
      rotate_left
      · (intro w hSw; (try dsimp only at hSw); go_simp; try with_reducible rfl)
      simp only [Act.put, List.setIfInBounds_toArray, List.set_cons_zero, List.set_cons_succ]
      refine take_at (i := 5) 273 (v := .agg #[.slice fa (sl bb).length fc, .int .i64 bb.at_, .int .u32 (bb.m : Int)]) rfl rfl (by kernel_rfl) (by kernel_rfl) (by kernel_rfl) (fun _ _ _ h => h) (by rfl) ?_ hHeld ?_
      · (intro w hSw; refine exec_load (by rfl) ?_; exact HLD.out w hSw)
      simp only [Act.put, List.setIfInBounds_toArray, List.set_cons_zero, List.set_cons_succ]
      refine run_at (i := 6) rfl (by kernel_rfl) (by rfl) (fun K hK => ?_)
      simp only [List.getElem_toArray, List.getElem_cons_zero, List.getElem_cons_succ]
      go_simp
      (go_at_call 21; refine Calls.mono (HNOW.out _ hHeld) ?_; rintro e w5 ⟨u5, rfl, hown5, hb5'⟩; rw [HYB.out] at hown5; have hb5 : Below w4.heap.size w4 w5 := ⟨hb5'.os, hb5'.tape, hb5'.output, hb5'.size, hb5'.block⟩; clear hb5'; obtain ⟨a5, c5, hu5, -, -, -, hr5, -⟩ := hown5.val; subst hu5; have hcv5 := conv_rd' hr5 _ c5 rfl; have HB5 : Hid _ := hb5; clear hown5 hb5 hr5)
      go_wp2_with fail
      refine hK.out _ _ (by first | exact (Below.refl _ _).drew | exact HB5.out) ?_
      clear hK K
      intro hHeld2
      clear hHeld
      have hHeld := hHeld2
      clear hHeld2
      try simp only [Act.put, List.setIfInBounds_toArray, List.set_cons_zero, List.set_cons_succ]
      refine val_at (i := 7) 275 (v := .string ⟨Y.toArray⟩) rfl rfl (by kernel_rfl) (by rfl) ?_ ?_ ?_
      · (go_simp; try with_reducible rfl)
      · (first | exact (Below.refl _ _).drew | exact HB5.out)
      intro hHeld2
      clear hHeld
      have hHeld := hHeld2
      clear hHeld2
      simp only [Act.put, List.setIfInBounds_toArray, List.set_cons_zero, List.set_cons_succ]
      refine take_at (i := 8) 276 (v := ?_) rfl rfl (by kernel_rfl) (by kernel_rfl) (by kernel_rfl) (fun _ _ _ h => h) (by rfl) ?_ hHeld ?_
      rotate_left
      · (intro w hSw; (try dsimp only at hSw); go_simp; try with_reducible rfl)
      simp only [Act.put, List.setIfInBounds_toArray, List.set_cons_zero, List.set_cons_succ]
      refine take_at (i := 9) 277 (v := ?_) rfl rfl (by kernel_rfl) (by kernel_rfl) (by kernel_rfl) (fun _ _ _ h => h) (by rfl) ?_ hHeld ?_
      rotate_left
      · (intro w hSw; (try dsimp only at hSw); go_simp; try with_reducible rfl)
      simp only [Act.put, List.setIfInBounds_toArray, List.set_cons_zero, List.set_cons_succ]
      refine take_at (i := 10) 278 (v := ?_) rfl rfl (by kernel_rfl) (by kernel_rfl) (by kernel_rfl) (fun _ _ _ h => h) (by rfl) ?_ hHeld ?_
      rotate_left
      · (intro w hSw; (try dsimp only at hSw); go_simp; try with_reducible rfl)
      simp only [Act.put, List.setIfInBounds_toArray, List.set_cons_zero, List.set_cons_succ]
      refine take_at (i := 11) 279 (v := ?_) rfl rfl (by kernel_rfl) (by kernel_rfl) (by kernel_rfl) (fun _ _ _ h => h) (by rfl) ?_ hHeld ?_
      rotate_left
      · (intro w hSw; (try dsimp only at hSw); go_simp; try with_reducible rfl)
      simp only [Act.put, List.setIfInBounds_toArray, List.set_cons_zero, List.set_cons_succ]
      refine take_at (i := 12) 280 (v := ?_) rfl rfl (by kernel_rfl) (by kernel_rfl) (by kernel_rfl) (fun _ _ _ h => h) (by rfl) ?_ hHeld ?_
      rotate_left
      · (intro w hSw; (try dsimp only at hSw); go_simp; try with_reducible rfl)
      simp only [Act.put, List.setIfInBounds_toArray, List.set_cons_zero, List.set_cons_succ]
      refine take_at (i := 13) 281 (v := ?_) rfl rfl (by kernel_rfl) (by kernel_rfl) (by kernel_rfl) (fun _ _ _ h => h) (by rfl) ?_ hHeld ?_
      rotate_left
      · (intro w hSw; (try dsimp only at hSw); go_simp; try with_reducible rfl)
      simp only [Act.put, List.setIfInBounds_toArray, List.set_cons_zero, List.set_cons_succ]
      refine take_at (i := 14) 282 (v := ?_) rfl rfl (by kernel_rfl) (by kernel_rfl) (by kernel_rfl) (fun _ _ _ h => h) (by rfl) ?_ hHeld ?_
      rotate_left
      · (intro w hSw; (try dsimp only at hSw); go_simp; try with_reducible rfl)
      simp only [Act.put, List.setIfInBounds_toArray, List.set_cons_zero, List.set_cons_succ]
      refine take_at (i := 15) 283 (v := ?_) rfl rfl (by kernel_rfl) (by kernel_rfl) (by kernel_rfl) (fun _ _ _ h => h) (by rfl) ?_ hHeld ?_
      rotate_left
      · (intro w hSw; (try dsimp only at hSw); go_simp; try with_reducible rfl)
      simp only [Act.put, List.setIfInBounds_toArray, List.set_cons_zero, List.set_cons_succ]
      refine take_at (i := 16) 284 (v := .int .u32 (bb.m : Int)) rfl rfl (by kernel_rfl) (by kernel_rfl) (by kernel_rfl) (fun _ _ _ h => h) (by rfl) ?_ hHeld ?_
      · (intro w hSw; have h9 := HCM.out _ hSw; go_simp; try with_reducible rfl)
      simp only [Act.put, List.setIfInBounds_toArray, List.set_cons_zero, List.set_cons_succ]
      refine take_at (i := 17) 285 (v := ?_) rfl rfl (by kernel_rfl) (by kernel_rfl) (by kernel_rfl) (fun _ _ _ h => h) (by rfl) ?_ hHeld ?_
      rotate_left
      · (intro w hSw; (try dsimp only at hSw); go_simp; try with_reducible rfl)
      simp only [Act.put, List.setIfInBounds_toArray, List.set_cons_zero, List.set_cons_succ]
      refine take_at (i := 18) 286 (v := ?_) rfl rfl (by kernel_rfl) (by kernel_rfl) (by kernel_rfl) (fun _ _ _ h => h) (by rfl) ?_ hHeld ?_
      rotate_left
      · (intro w hSw; (try dsimp only at hSw); go_simp; try with_reducible rfl)
      simp only [Act.put, List.setIfInBounds_toArray, List.set_cons_zero, List.set_cons_succ]
      refine take_at (i := 19) 287 (v := ?_) rfl rfl (by kernel_rfl) (by kernel_rfl) (by kernel_rfl) (fun _ _ _ h => h) (by rfl) ?_ hHeld ?_
      rotate_left
      · (intro w hSw; (try dsimp only at hSw); go_simp; try with_reducible rfl)
      simp only [Act.put, List.setIfInBounds_toArray, List.set_cons_zero, List.set_cons_succ]
      refine take_at (i := 20) 288 (v := ?_) rfl rfl (by kernel_rfl) (by kernel_rfl) (by kernel_rfl) (fun _ _ _ h => h) (by rfl) ?_ hHeld ?_
      rotate_left
      · (intro w hSw; (try dsimp only at hSw); go_simp; try with_reducible rfl)
      simp only [Act.put, List.setIfInBounds_toArray, List.set_cons_zero, List.set_cons_succ]
      refine take_at (i := 21) 289 (v := ?_) rfl rfl (by kernel_rfl) (by kernel_rfl) (by kernel_rfl) (fun _ _ _ h => h) (by rfl) ?_ hHeld ?_
      rotate_left
      · (intro w hSw; (try dsimp only at hSw); go_simp; try with_reducible rfl)
      simp only [Act.put, List.setIfInBounds_toArray, List.set_cons_zero, List.set_cons_succ]
      refine take_at (i := 22) 290 (v := ?_) rfl rfl (by kernel_rfl) (by kernel_rfl) (by kernel_rfl) (fun _ _ _ h => h) (by rfl) ?_ hHeld ?_
      rotate_left
      · (intro w hSw; (try dsimp only at hSw); go_simp; try with_reducible rfl)
      simp only [Act.put, List.setIfInBounds_toArray, List.set_cons_zero, List.set_cons_succ]
      refine take_at (i := 23) 291 (v := ?_) rfl rfl (by kernel_rfl) (by kernel_rfl) (by kernel_rfl) (fun _ _ _ h => h) (by rfl) ?_ hHeld ?_
      rotate_left
      · (intro w hSw; (try dsimp only at hSw); go_simp; try with_reducible rfl)
      simp only [Act.put, List.setIfInBounds_toArray, List.set_cons_zero, List.set_cons_succ]
      refine skip_at (i := 24) 292 rfl rfl (by kernel_rfl) (by kernel_rfl) (by kernel_rfl) (fun _ _ _ h => h) (by rfl) hHeld ?_
      simp only [Act.put, List.setIfInBounds_toArray, List.set_cons_zero, List.set_cons_succ]
      refine skip_at (i := 25) 293 rfl rfl (by kernel_rfl) (by kernel_rfl) (by kernel_rfl) (fun _ _ _ h => h) (by rfl) hHeld ?_
      simp only [Act.put, List.setIfInBounds_toArray, List.set_cons_zero, List.set_cons_succ]
      refine skip_at (i := 26) 294 rfl rfl (by kernel_rfl) (by kernel_rfl) (by kernel_rfl) (fun _ _ _ h => h) (by rfl) hHeld ?_
      simp only [Act.put, List.setIfInBounds_toArray, List.set_cons_zero, List.set_cons_succ]
      refine skip_at (i := 27) 295 rfl rfl (by kernel_rfl) (by kernel_rfl) (by kernel_rfl) (fun _ _ _ h => h) (by rfl) hHeld ?_
      simp only [Act.put, List.setIfInBounds_toArray, List.set_cons_zero, List.set_cons_succ]
      refine skip_at (i := 28) 296 rfl rfl (by kernel_rfl) (by kernel_rfl) (by kernel_rfl) (fun _ _ _ h => h) (by rfl) hHeld ?_
      simp only [Act.put, List.setIfInBounds_toArray, List.set_cons_zero, List.set_cons_succ]
      refine take_at (i := 29) 297 (v := ?_) rfl rfl (by kernel_rfl) (by kernel_rfl) (by kernel_rfl) (fun _ _ _ h => h) (by rfl) ?_ hHeld ?_
      rotate_left
      · (intro w hSw; (try dsimp only at hSw); go_simp; try with_reducible rfl)
      simp only [Act.put, List.setIfInBounds_toArray, List.set_cons_zero, List.set_cons_succ]
      refine take_at (i := 30) 298 (v := ?_) rfl rfl (by kernel_rfl) (by kernel_rfl) (by kernel_rfl) (fun _ _ _ h => h) (by rfl) ?_ hHeld ?_
      rotate_left
      · (intro w hSw; (try dsimp only at hSw); go_simp; try with_reducible rfl)
      simp only [Act.put, List.setIfInBounds_toArray, List.set_cons_zero, List.set_cons_succ]
      refine wpAnyH_done (by kernel_rfl) ?_ _
      refine NoPanic.normal ?_
      have HP6 : Hid _ := HP4.out.below HB5.out
      have HBK6 : Hid _ := HBK4.out.below HB5.out
      have HB6 : Hid _ := HB4.out.trans (HB5.out.mono HB4.out.size)
      clear hcv5
      go_wp2_with fail
      refine Calls.mono (without_t HBK6.out kk HKL.out (by rw [← HNB.out]; omega) HB6.out.size) ?_
      rintro e w7 ⟨v7, rfl, hbk7, hb7⟩
      obtain ⟨a7, c7, hv7, -, -, -, -⟩ := hbk7.row.val
      rw [hbk7.len, List.length_eraseIdx_of_lt HKL.out, ← HNB.out] at hv7
      obtain ⟨M, hM⟩ : ∃ M, M = N - 1 := ⟨_, rfl⟩
      rw [← hM] at hv7
      subst hv7
      have HBK7 : Hid _ := hbk7
      have HP7 : Hid _ := HP6.out.below hb7
      have HB7 : Hid _ := HB6.out.trans (hb7.mono HB6.out.size)
      have HL7 : Hid (((Bs.eraseIdx kk).map toD).length = M) := by unfold Hid; rw [List.length_map, List.length_eraseIdx_of_lt HKL.out, ← HNB.out, hM]
      have hMR : ¬ (R : Int) < (M : Int) := by omega
      clear hbk7 hb7 hM
      go_wp2_with (go_at_call 9; refine Calls.mono (oLen' HP7.out HL7.out) ?_; rintro e w9 ⟨rfl, hq⟩; have hq := hq.symm; subst hq)
      refine ⟨?_, ?_⟩
      · unfold WI
        iterate 305 (apply Exists.intro)
        exact ⟨⟨k + 1, _, _, by omega, by go_num, HBK7.out, HP7.out, HB7.out⟩, rfl⟩
      · simp [Wmu, intOf]; omega
end Go.Proofs.YtnpcgegcoakbmaaDoor
