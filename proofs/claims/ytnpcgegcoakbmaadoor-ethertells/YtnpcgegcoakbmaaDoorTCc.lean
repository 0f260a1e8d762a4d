import Derived.Test.YtnpcgegcoakbmaaDoorTEw
namespace Go.Proofs.YtnpcgegcoakbmaaDoor
set_option linter.unusedVariables false
set_option linter.unusedSimpArgs false
open Go.RowKit
set_option maxRecDepth 100000 in
set_option maxHeartbeats 12800000 in
theorem tcase1nt (r : Int) (ta : Option Addr) (tcap : Nat) (ts : List Tx) (ao : Option Addr) (cap : Nat) (xs : List OpD) (w : World) (R : Nat) (hRm : R ≤ 1024) (hR0 : 1 ≤ R) (htl : ts.length ≤ 8796093022208) (hl : xs.length ≤ 4398046511103) (HRo : Hid (RdO w ao xs)) (HRt : Hid (RdT w ta ts)) (HTZ : Hid (∀ u, Below w.heap.size w u → TabZ u)) (HTO : Hid (∀ u, Below w.heap.size w u → TabOk u))
    (u6 u9 u12 u13 u14 u15 u16 u17 u18 u19 u20 u21 u22 u23 u24 u25 u26 u27 u28 u29 u30 u31 u32 u33 u34 u35 u36 u37 u38 u39 u40 u41 u42 u43 u44 u45 u46 u47 u48 u49 u50 u51 u52 u53 u54 u55 u56 u57 u58 u59 u60 u61 u62 u63 u64 u65 u66 u67 u68 u69 u70 u71 u72 u73 u74 u75 u76 u77 u78 u79 u80 u81 u82 u83 u84 u85 u86 u87 u88 u89 u90 u91 u92 u93 u94 u95 u96 u97 u98 u99 u100 u101 u102 u103 u104 u105 u106 u107 u108 u109 u110 u111 u112 u113 u114 u115 u116 u117 u118 u119 u120 u121 u122 u123 u124 u125 u126 u127 u128 u129 u130 u131 u132 u133 u134 u135 u136 u137 u138 u139 u140 u141 u142 u143 u144 u145 u146 u147 u148 u149 u150 u151 u152 u153 u154 u155 u156 u157 u158 u159 u160 u161 u162 u163 u164 u165 u166 u167 u168 u169 u170 u171 u172 u173 u174 u175 u176 u177 u178 u179 u180 u181 u182 u183 u184 u185 u186 u187 u188 u189 u190 u191 u192 u193 u194 u195 u196 u197 u198 u199 u200 u201 u202 u203 u204 u205 u206 u207 u208 u209 u210 u211 u212 u213 u214 u215 u216 u217 u218 u219 u220 u221 u222 u223 u224 u225 u226 u227 u228 u229 u230 u231 u232 u233 u234 u235 u236 u237 u238 u239 u240 u241 u242 u243 u244 u245 u246 u247 u248 u249 u250 u251 u252 u253 u254 u255 u256 u257 u258 u259 u260 u261 u262 u263 u264 u265 u266 u267 u268 u269 u270 u271 u272 u273 u274 u275 u276 u277 u278 u279 u280 u281 u282 u283 u284 u285 u286 u287 u288 u289 u290 u291 u292 u293 u294 u295 u296 u297 u298 u299 u300 u301 u302 u303 u304 u305 u306 u307 u308 u309 u310 u311 u312 : Value) (wr : World) (k : Nat) (F : List Sc) (Bs : List Bk) (ba : Option Addr) (N bc : Nat) (hk : k ≤ xs.length) (hNbc : N ≤ bc) (HNB : Hid (N = Bs.length)) (hNR : N ≤ R) (HBK : Hid (Bok wr w.heap.size (.slice ba N bc) F Bs)) (HP : Hid (On SP w.heap.size X0 wr w.heap.size R (Bs.map toD))) (HB : Hid (Below w.heap.size w wr)) (hlt : k < xs.length) (hkd : xs[k].kd = 1) (hN0 : ¬ N = 0) (ht0 : ts.length = 0) (Q0 : Exit → Act → World → Prop) :
    Code.wp Tryd.prog (TB Tryd.f5.body) (Exit.then (fun a' w'' => WI r ta tcap ts ao cap xs w R a' w'' ∧ Wmu xs.length a' w'' < Wmu xs.length ⟨#[.int .i64 r, .slice ta ts.length tcap, .slice ao xs.length cap, undef, undef, undef, u6, .int .i64 (R : Int), .pointer (some ⟨w.heap.size, 0, none⟩), u9, .slice ba N bc, .int .i64 k, u12, u13, u14, u15, u16, u17, u18, u19, u20, u21, u22, u23, u24, u25, u26, u27, u28, u29, u30, u31, u32, u33, u34, u35, u36, u37, u38, u39, u40, u41, u42, u43, u44, u45, u46, u47, u48, u49, u50, u51, u52, u53, u54, u55, u56, u57, u58, u59, u60, u61, u62, u63, u64, u65, u66, u67, u68, u69, u70, u71, u72, u73, u74, u75, u76, u77, u78, u79, u80, u81, u82, u83, u84, u85, u86, u87, u88, u89, u90, u91, u92, u93, u94, u95, u96, u97, u98, u99, u100, u101, u102, u103, u104, u105, u106, u107, u108, u109, u110, u111, u112, u113, u114, u115, u116, u117, u118, u119, u120, u121, u122, u123, u124, u125, u126, u127, u128, u129, u130, u131, u132, u133, u134, u135, u136, u137, u138, u139, u140, u141, u142, u143, u144, u145, u146, u147, u148, u149, u150, u151, u152, u153, u154, u155, u156, u157, u158, u159, u160, u161, u162, u163, u164, u165, u166, u167, u168, u169, u170, u171, u172, u173, u174, u175, u176, u177, u178, u179, u180, u181, u182, u183, u184, u185, u186, u187, u188, u189, u190, u191, u192, u193, u194, u195, u196, u197, u198, u199, u200, u201, u202, u203, u204, u205, u206, u207, u208, u209, u210, u211, u212, u213, u214, u215, u216, u217, u218, u219, u220, u221, u222, u223, u224, u225, u226, u227, u228, u229, u230, u231, u232, u233, u234, u235, u236, u237, u238, u239, u240, u241, u242, u243, u244, u245, u246, u247, u248, u249, u250, u251, u252, u253, u254, u255, u256, u257, u258, u259, u260, u261, u262, u263, u264, u265, u266, u267, u268, u269, u270, u271, u272, u273, u274, u275, u276, u277, u278, u279, u280, u281, u282, u283, u284, u285, u286, u287, u288, u289, u290, u291, u292, u293, u294, u295, u296, u297, u298, u299, u300, u301, u302, u303, u304, u305, u306, u307, u308, u309, u310, u311, u312, undef, undef, undef, undef, undef, undef, undef, undef, undef, undef, undef, undef, undef, undef, undef, undef, undef, undef, undef, undef, undef, undef, undef, undef, undef], []⟩ wr) Q0) ⟨#[.int .i64 r, .slice ta ts.length tcap, .slice ao xs.length cap, undef, undef, undef, u6, .int .i64 (R : Int), .pointer (some ⟨w.heap.size, 0, none⟩), u9, .slice ba N bc, .int .i64 k, u12, u13, u14, u15, u16, u17, u18, u19, u20, u21, u22, u23, u24, u25, u26, u27, u28, u29, u30, u31, u32, u33, u34, u35, u36, u37, u38, u39, u40, u41, u42, u43, u44, u45, u46, u47, u48, u49, u50, u51, u52, u53, u54, u55, u56, u57, u58, u59, u60, u61, u62, u63, u64, u65, u66, u67, u68, u69, u70, u71, u72, u73, u74, u75, u76, u77, u78, u79, u80, u81, u82, u83, u84, u85, u86, u87, u88, u89, u90, u91, u92, u93, u94, u95, u96, u97, u98, u99, u100, u101, u102, u103, u104, u105, u106, u107, u108, u109, u110, u111, u112, u113, u114, u115, u116, u117, u118, u119, u120, u121, u122, u123, u124, u125, u126, u127, u128, u129, u130, u131, u132, u133, u134, u135, u136, u137, u138, u139, u140, u141, u142, u143, u144, u145, u146, u147, u148, u149, u150, u151, u152, u153, u154, u155, u156, u157, u158, u159, u160, u161, u162, u163, u164, u165, u166, u167, u168, u169, u170, u171, u172, u173, u174, u175, u176, u177, u178, u179, u180, u181, u182, u183, u184, u185, u186, u187, u188, u189, u190, u191, u192, u193, u194, u195, u196, u197, u198, u199, u200, u201, u202, u203, u204, u205, u206, u207, u208, u209, u210, u211, u212, u213, u214, u215, u216, u217, u218, u219, u220, u221, u222, u223, u224, u225, u226, u227, u228, u229, u230, u231, u232, u233, u234, u235, u236, u237, u238, u239, u240, u241, u242, u243, u244, u245, u246, u247, u248, u249, u250, u251, u252, u253, u254, u255, u256, u257, u258, u259, u260, u261, u262, u263, u264, u265, u266, u267, u268, u269, u270, u271, u272, u273, u274, u275, u276, u277, u278, u279, u280, u281, u282, u283, u284, u285, u286, u287, u288, u289, u290, u291, u292, u293, u294, u295, u296, u297, u298, u299, u300, u301, u302, u303, u304, u305, u306, u307, u308, u309, u310, u311, u312, undef, undef, undef, undef, undef, undef, undef, undef, undef, undef, undef, undef, undef, undef, undef, undef, undef, undef, undef, undef, undef, undef, undef, undef, undef], []⟩ wr := by
  conv => arg 2; whnf
  obtain ⟨b, o, rfl, hok, hrg⟩ := HRo.out k hlt
  obtain ⟨op, hop⟩ : ∃ op, op = xs[k] := ⟨_, rfl⟩
  rw [← hop] at hok hrg hkd
  obtain ⟨kd, oi, oat, om, oa, on, oc, oxs⟩ := op
  simp only at hkd
  subst hkd
  have HOK : Hid _ := hok
  have HRG : Hid _ := rangeAt_below hrg HB.out
  have hk0 : (0 : Int) ≤ (k : Int) := by omega
  have hkI : (k : Int) < (xs.length : Int) := by omega
  have hoi := hok.hi
  simp only at hoi
  obtain ⟨hoi0, hoi1⟩ := hoi
  clear hop hok hrg
  have hNp : (0 : Int) < (N : Int) := by omega
  obtain ⟨rr, kk, q1, q2, q3, q4, q5⟩ := mod_in oi N (by omega)
  clear hN0
  have ht0I : ¬ (0 : Int) < (ts.length : Int) := by omega
  clear ht0
  go_upto_if 56 with (refine wpList_load_mid rfl tOp _ rfl b (o + k * 5) rfl (opl ⟨1, oi, oat, om, oa, on, oc, oxs⟩) _ HRG.out Tryd.underlying46 rfl size_op' ?_)
  obtain ⟨w1, hw1⟩ : ∃ w1, w1 = wr.alloc (.cells (opv 1 oa on oc oi oat om) tOp) := ⟨_, rfl⟩
  have hb1 : Below wr.heap.size wr w1 := by rw [hw1]; exact al (Below.refl _ _) _
  have hbx1 : w1.heap[wr.heap.size]? = some (.cells (opv 1 oa on oc oi oat om) tOp (0, 0)) := by rw [hw1]; exact heap_alloc_new wr _
  rw [← hw1]
  have hB1 : w.heap.size ≤ w1.heap.size := Nat.le_trans HB.out.size hb1.size
  have HP1 : Hid _ := HP.out.below hb1
  have HBK1 : Hid _ := HBK.out.below hb1
  have HB1 : Hid (Below w.heap.size w w1) := HB.out.trans (hb1.mono HB.out.size)
  have HX1 : Hid _ := hbx1
  obtain ⟨z0, -, z2, z3, z4⟩ := opcell hbx1
  clear hw1 hb1 hbx1
  go_upto_if 78 with fail
  have HA : Hid (Below w1.heap.size w1 (w1.alloc (.cells #[] 5))) := al (Below.refl _ _) _
  have HXA : Hid ((w1.alloc (.cells #[] 5)).cell? ⟨wr.heap.size, 2, none⟩ = some (.int .i64 oi)) := (HA.out.cell (World.block_lt_of_cell? w1 _ z2)).trans z2
  obtain ⟨w2, hw2⟩ : ∃ w2, w2 = w1.alloc (.cells #[] 5) := ⟨_, rfl⟩
  rw [← hw2] at HA HXA ⊢
  clear hw2 z0 z2 z3 z4
  have HP2 : Hid _ := HP1.out.below HA.out
  have HBK2 : Hid _ := HBK1.out.below HA.out
  have HB2 : Hid _ := HB1.out.trans (HA.out.mono hB1)
  clear HP1 HBK1
  obtain ⟨sa, hsa⟩ : ∃ sa : Option Addr, sa = some ⟨w1.heap.size, 0, none⟩ := ⟨_, rfl⟩
  obtain ⟨tx, htxe⟩ : ∃ tx : List UInt8, tx = [] := ⟨_, rfl⟩
  have htl2 : tx.length ≤ 2044 := by rw [htxe]; simp
  have HSL : Hid (0 = tx.length) := by unfold Hid; rw [htxe]; rfl
  have HRX : Hid (Rd w2 sa tx) := by unfold Hid; rw [htxe]; exact Rd.nil _ _
  have HNI : Hid (sa = none → 0 = 0) := fun _ => rfl
  have HSA : Hid _ := hsa
  clear hsa htxe
  go_wp2_with fail
  refine Calls.mono (seal_n _ _ _ tx HSL.out w2 (HSA.out ▸ HRX.out) (fun h => by cases h) (by omega) (HTO.out _ HB2.out)) ?_
  rintro e w3 ⟨v3, rfl, hown3, hb3⟩
  obtain ⟨Y, hY⟩ : ∃ Y, Y = tx ++ sealL tx := ⟨_, rfl⟩
  rw [← hY] at hown3
  have hYl : Y.length ≤ 2048 := by rw [hY]; simp [sealL]; omega
  obtain ⟨a3, c3, hu3, -, -, hnil3, hr3, -⟩ := hown3.val
  subst hu3
  have HP3 : Hid _ := HP2.out.below hb3
  have HBK3 : Hid _ := HBK2.out.below hb3
  have HB3 : Hid _ := HB2.out.trans (hb3.mono HB2.out.size)
  have HO3 : Hid _ := hown3
  have HR3 : Hid _ := hr3
  have HN3 : Hid _ := hnil3
  have HY : Hid _ := hY
  clear hown3 hb3 hr3 hnil3 hY HRX HNI HSA
  go_wp2_with fail
  refine Calls.mono (oPut HP3.out (fun b hb => hb.elim) HB3.out.size a3 _ c3 Y rfl HR3.out HN3.out (by omega)) ?_
  rintro e w4 ⟨rfl, hP4, hf4⟩
  have hpm := putL_map (R := R) (Bs := Bs) htl2
  rw [← HY.out] at hpm
  rw [hpm.2] at hP4
  rw [hpm.1]
  have HBK4 : Hid _ := HBK3.out.fr hf4
  have HB4 : Hid _ := HB3.out.trans hf4.bel
  have HO4 : Hid _ := hf4.own HO3.out
  clear hpm hf4
  by_cases hfu : Bs.length = R
  · rw [if_pos hfu] at hP4
    rw [if_pos hfu]
    have HP4 : Hid _ := hP4
    have hNR2 : ¬ (N : Int) < (R : Int) := by have := HNB.out; omega
    have HL4 : Hid ((Bs.map toD).length = N) := by unfold Hid; rw [List.length_map]; exact HNB.out.symm
    clear hP4 hfu
    go_wp2_with (go_at_call 9; refine Calls.mono (oLen' HP4.out HL4.out) ?_; rintro e w9 ⟨rfl, hq⟩; have hq := hq.symm; subst hq)
    refine ⟨?_, ?_⟩
    · unfold WI
      iterate 305 (apply Exists.intro)
      exact ⟨⟨k + 1, F, Bs, by omega, by go_num, HBK4.out, HP4.out, HB4.out⟩, rfl⟩
    · simp [Wmu, intOf]; omega
  · rw [if_neg hfu] at hP4
    rw [if_neg hfu]
    have HP4 : Hid _ := hP4
    have hNR2 : (N : Int) < (R : Int) := by have := HNB.out; omega
    have HNF : Hid (N = F.length) := by unfold Hid; rw [HBK4.out.len]; exact HNB.out
    have h0 : Own w4 w4.heap.size (.slice none 0 0) [] := World.ownsRow_nil _ _ _ _
    have HR4 : Hid _ := Rd.of_own HO4.out
    clear hP4 hfu
    go_wp2_with (first | (at_builtin; refine wp_app rfl _ _ rfl w4.heap.size (.slice none 0 0) [] Y a3 c3 rfl h0 rfl HR4.out HN3.out (by simp; omega) (Nat.le_refl _) ?_; intro v6 w6 hown6 hg6; rw [List.nil_append] at hown6; have hb6 : Below w4.heap.size w4 w6 := (Below.refl _ w4).grown hg6 (Nat.le_refl _) (fun k hk => by cases hk); obtain ⟨a6, c6, hu6, -⟩ := hown6.val; subst hu6; have HO6 : Hid _ := hown6; have HBK6 : Hid _ := HBK4.out.below hb6; have HP6 : Hid _ := HP4.out.below hb6; have HB6 : Hid _ := HB4.out.trans (hb6.mono HB4.out.size); clear hown6 hg6 hb6) | (at_builtin; refine wp_appG1 (K := KS) rfl _ _ rfl w.heap.size (.slice ba N bc) F ⟨a6, Y.length, c6, 0, 0⟩ N HNF.out ⟨w6.heap.size, 0, none⟩ 1 rfl (OwnG.below HBK6.out.row (al (Below.refl _ _) _)) rfl (rdG_lit (heap_alloc_new _ _) rfl) (by show (N + 1) * 40 ≤ _; omega) (by simp only [maxLen]; omega) (by have := HB6.out.size; simp; omega) ?_; intro g5 cap5 w5 hown5 hg5 hat5; have HO5 : Hid _ := hown5; have HG5 : Hid _ := hg5; clear hown5 hg5 hat5))
    obtain ⟨hbv, -⟩ := ByV.of_own false HO6.out
    have hbv2 : ByV w6 ⟨false, a6, Y.length, c6⟩ (sl ⟨tx, 0, 0⟩) := by have h9 := HY.out; unfold sl; rw [← h9]; exact hbv
    have hb3 : Below w6.heap.size w6 (w6.alloc (.cells #[.slice a6 Y.length c6, .int .i64 0, .int .u32 (0 : Int)] tSn)) := al (Below.refl _ _) _
    have hbk3 := HBK6.out.below hb3
    have HBK5 : Hid (Bok w5 w.heap.size (.slice (some ⟨g5, 0, none⟩) (N + 1) cap5) (F ++ [⟨a6, Y.length, c6, 0, 0⟩]) (Bs ++ [(⟨tx, 0, 0⟩ : Bk)])) := hbk3.push HG5.out HO5.out ⟨rfl, rfl, (hbv2.below hb3).bk hbk3 HG5.out, ⟨htl2, by simp only; omega, by simp only; omega, fun h => absurd rfl h⟩⟩
    have HP5 : Hid (On SP w.heap.size X0 w5 w.heap.size R ((Bs ++ [(⟨tx, 0, 0⟩ : Bk)]).map toD)) := (HP6.out.below hb3).bk hbk3 HG5.out
    have HB5 : Hid (Below w.heap.size w w5) := (HB6.out.trans (hb3.mono HB6.out.size)).grown HG5.out (by have := HB6.out.size; simp; omega) (fun j hj => (hbk3.row.lt' hj).1)
    have HL5 : Hid (((Bs ++ [(⟨tx, 0, 0⟩ : Bk)]).map toD).length = N + 1) := by unfold Hid; rw [List.length_map, List.length_append, ← HNB.out]; rfl
    have hNR3 : ¬ (R : Int) < ((N + 1 : Nat) : Int) := by omega
    clear hb3 hbk3
    clear hbv hbv2
    go_wp2_with (go_at_call 9; refine Calls.mono (oLen' HP5.out HL5.out) ?_; rintro e w9 ⟨rfl, hq⟩; have hq := hq.symm; subst hq)
    refine ⟨?_, ?_⟩
    · unfold WI
      iterate 305 (apply Exists.intro)
      exact ⟨⟨k + 1, _, _, by omega, by go_num, HBK5.out, HP5.out, HB5.out⟩, rfl⟩
    · simp [Wmu, intOf]; omega
set_option maxRecDepth 100000 in
set_option maxHeartbeats 12800000 in
theorem tcase1nb (r : Int) (ta : Option Addr) (tcap : Nat) (ts : List Tx) (ao : Option Addr) (cap : Nat) (xs : List OpD) (w : World) (R : Nat) (hRm : R ≤ 1024) (hR0 : 1 ≤ R) (htl : ts.length ≤ 8796093022208) (hl : xs.length ≤ 4398046511103) (HRo : Hid (RdO w ao xs)) (HRt : Hid (RdT w ta ts)) (HTZ : Hid (∀ u, Below w.heap.size w u → TabZ u)) (HTO : Hid (∀ u, Below w.heap.size w u → TabOk u))
    (u6 u9 u12 u13 u14 u15 u16 u17 u18 u19 u20 u21 u22 u23 u24 u25 u26 u27 u28 u29 u30 u31 u32 u33 u34 u35 u36 u37 u38 u39 u40 u41 u42 u43 u44 u45 u46 u47 u48 u49 u50 u51 u52 u53 u54 u55 u56 u57 u58 u59 u60 u61 u62 u63 u64 u65 u66 u67 u68 u69 u70 u71 u72 u73 u74 u75 u76 u77 u78 u79 u80 u81 u82 u83 u84 u85 u86 u87 u88 u89 u90 u91 u92 u93 u94 u95 u96 u97 u98 u99 u100 u101 u102 u103 u104 u105 u106 u107 u108 u109 u110 u111 u112 u113 u114 u115 u116 u117 u118 u119 u120 u121 u122 u123 u124 u125 u126 u127 u128 u129 u130 u131 u132 u133 u134 u135 u136 u137 u138 u139 u140 u141 u142 u143 u144 u145 u146 u147 u148 u149 u150 u151 u152 u153 u154 u155 u156 u157 u158 u159 u160 u161 u162 u163 u164 u165 u166 u167 u168 u169 u170 u171 u172 u173 u174 u175 u176 u177 u178 u179 u180 u181 u182 u183 u184 u185 u186 u187 u188 u189 u190 u191 u192 u193 u194 u195 u196 u197 u198 u199 u200 u201 u202 u203 u204 u205 u206 u207 u208 u209 u210 u211 u212 u213 u214 u215 u216 u217 u218 u219 u220 u221 u222 u223 u224 u225 u226 u227 u228 u229 u230 u231 u232 u233 u234 u235 u236 u237 u238 u239 u240 u241 u242 u243 u244 u245 u246 u247 u248 u249 u250 u251 u252 u253 u254 u255 u256 u257 u258 u259 u260 u261 u262 u263 u264 u265 u266 u267 u268 u269 u270 u271 u272 u273 u274 u275 u276 u277 u278 u279 u280 u281 u282 u283 u284 u285 u286 u287 u288 u289 u290 u291 u292 u293 u294 u295 u296 u297 u298 u299 u300 u301 u302 u303 u304 u305 u306 u307 u308 u309 u310 u311 u312 : Value) (wr : World) (k : Nat) (F : List Sc) (Bs : List Bk) (ba : Option Addr) (N bc : Nat) (hk : k ≤ xs.length) (hNbc : N ≤ bc) (HNB : Hid (N = Bs.length)) (hNR : N ≤ R) (HBK : Hid (Bok wr w.heap.size (.slice ba N bc) F Bs)) (HP : Hid (On SP w.heap.size X0 wr w.heap.size R (Bs.map toD))) (HB : Hid (Below w.heap.size w wr)) (hlt : k < xs.length) (hkd : xs[k].kd = 1) (hN0 : ¬ N = 0) (ht0 : ¬ ts.length = 0) (hbig : ∀ (it : Nat) (p5 : it < ts.length), (xs[k].i.tmod (ts.length : Int) + (ts.length : Int)).tmod (ts.length : Int) = (it : Int) → 2044 < ts[it].n) (Q0 : Exit → Act → World → Prop) :
    Code.wp Tryd.prog (TB Tryd.f5.body) (Exit.then (fun a' w'' => WI r ta tcap ts ao cap xs w R a' w'' ∧ Wmu xs.length a' w'' < Wmu xs.length ⟨#[.int .i64 r, .slice ta ts.length tcap, .slice ao xs.length cap, undef, undef, undef, u6, .int .i64 (R : Int), .pointer (some ⟨w.heap.size, 0, none⟩), u9, .slice ba N bc, .int .i64 k, u12, u13, u14, u15, u16, u17, u18, u19, u20, u21, u22, u23, u24, u25, u26, u27, u28, u29, u30, u31, u32, u33, u34, u35, u36, u37, u38, u39, u40, u41, u42, u43, u44, u45, u46, u47, u48, u49, u50, u51, u52, u53, u54, u55, u56, u57, u58, u59, u60, u61, u62, u63, u64, u65, u66, u67, u68, u69, u70, u71, u72, u73, u74, u75, u76, u77, u78, u79, u80, u81, u82, u83, u84, u85, u86, u87, u88, u89, u90, u91, u92, u93, u94, u95, u96, u97, u98, u99, u100, u101, u102, u103, u104, u105, u106, u107, u108, u109, u110, u111, u112, u113, u114, u115, u116, u117, u118, u119, u120, u121, u122, u123, u124, u125, u126, u127, u128, u129, u130, u131, u132, u133, u134, u135, u136, u137, u138, u139, u140, u141, u142, u143, u144, u145, u146, u147, u148, u149, u150, u151, u152, u153, u154, u155, u156, u157, u158, u159, u160, u161, u162, u163, u164, u165, u166, u167, u168, u169, u170, u171, u172, u173, u174, u175, u176, u177, u178, u179, u180, u181, u182, u183, u184, u185, u186, u187, u188, u189, u190, u191, u192, u193, u194, u195, u196, u197, u198, u199, u200, u201, u202, u203, u204, u205, u206, u207, u208, u209, u210, u211, u212, u213, u214, u215, u216, u217, u218, u219, u220, u221, u222, u223, u224, u225, u226, u227, u228, u229, u230, u231, u232, u233, u234, u235, u236, u237, u238, u239, u240, u241, u242, u243, u244, u245, u246, u247, u248, u249, u250, u251, u252, u253, u254, u255, u256, u257, u258, u259, u260, u261, u262, u263, u264, u265, u266, u267, u268, u269, u270, u271, u272, u273, u274, u275, u276, u277, u278, u279, u280, u281, u282, u283, u284, u285, u286, u287, u288, u289, u290, u291, u292, u293, u294, u295, u296, u297, u298, u299, u300, u301, u302, u303, u304, u305, u306, u307, u308, u309, u310, u311, u312, undef, undef, undef, undef, undef, undef, undef, undef, undef, undef, undef, undef, undef, undef, undef, undef, undef, undef, undef, undef, undef, undef, undef, undef, undef], []⟩ wr) Q0) ⟨#[.int .i64 r, .slice ta ts.length tcap, .slice ao xs.length cap, undef, undef, undef, u6, .int .i64 (R : Int), .pointer (some ⟨w.heap.size, 0, none⟩), u9, .slice ba N bc, .int .i64 k, u12, u13, u14, u15, u16, u17, u18, u19, u20, u21, u22, u23, u24, u25, u26, u27, u28, u29, u30, u31, u32, u33, u34, u35, u36, u37, u38, u39, u40, u41, u42, u43, u44, u45, u46, u47, u48, u49, u50, u51, u52, u53, u54, u55, u56, u57, u58, u59, u60, u61, u62, u63, u64, u65, u66, u67, u68, u69, u70, u71, u72, u73, u74, u75, u76, u77, u78, u79, u80, u81, u82, u83, u84, u85, u86, u87, u88, u89, u90, u91, u92, u93, u94, u95, u96, u97, u98, u99, u100, u101, u102, u103, u104, u105, u106, u107, u108, u109, u110, u111, u112, u113, u114, u115, u116, u117, u118, u119, u120, u121, u122, u123, u124, u125, u126, u127, u128, u129, u130, u131, u132, u133, u134, u135, u136, u137, u138, u139, u140, u141, u142, u143, u144, u145, u146, u147, u148, u149, u150, u151, u152, u153, u154, u155, u156, u157, u158, u159, u160, u161, u162, u163, u164, u165, u166, u167, u168, u169, u170, u171, u172, u173, u174, u175, u176, u177, u178, u179, u180, u181, u182, u183, u184, u185, u186, u187, u188, u189, u190, u191, u192, u193, u194, u195, u196, u197, u198, u199, u200, u201, u202, u203, u204, u205, u206, u207, u208, u209, u210, u211, u212, u213, u214, u215, u216, u217, u218, u219, u220, u221, u222, u223, u224, u225, u226, u227, u228, u229, u230, u231, u232, u233, u234, u235, u236, u237, u238, u239, u240, u241, u242, u243, u244, u245, u246, u247, u248, u249, u250, u251, u252, u253, u254, u255, u256, u257, u258, u259, u260, u261, u262, u263, u264, u265, u266, u267, u268, u269, u270, u271, u272, u273, u274, u275, u276, u277, u278, u279, u280, u281, u282, u283, u284, u285, u286, u287, u288, u289, u290, u291, u292, u293, u294, u295, u296, u297, u298, u299, u300, u301, u302, u303, u304, u305, u306, u307, u308, u309, u310, u311, u312, undef, undef, undef, undef, undef, undef, undef, undef, undef, undef, undef, undef, undef, undef, undef, undef, undef, undef, undef, undef, undef, undef, undef, undef, undef], []⟩ wr := by
  conv => arg 2; whnf
  obtain ⟨b, o, rfl, hok, hrg⟩ := HRo.out k hlt
  obtain ⟨op, hop⟩ : ∃ op, op = xs[k] := ⟨_, rfl⟩
  rw [← hop] at hok hrg hkd hbig
  obtain ⟨kd, oi, oat, om, oa, on, oc, oxs⟩ := op
  simp only at hkd hbig
  subst hkd
  have HOK : Hid _ := hok
  have HRG : Hid _ := rangeAt_below hrg HB.out
  have hk0 : (0 : Int) ≤ (k : Int) := by omega
  have hkI : (k : Int) < (xs.length : Int) := by omega
  have hoi := hok.hi
  simp only at hoi
  obtain ⟨hoi0, hoi1⟩ := hoi
  clear hop hok hrg
  have hNp : (0 : Int) < (N : Int) := by omega
  obtain ⟨rr, kk, q1, q2, q3, q4, q5⟩ := mod_in oi N (by omega)
  clear hN0
  have ht0I : (0 : Int) < (ts.length : Int) := by omega
  clear ht0
  go_upto_if 56 with (refine wpList_load_mid rfl tOp _ rfl b (o + k * 5) rfl (opl ⟨1, oi, oat, om, oa, on, oc, oxs⟩) _ HRG.out Tryd.underlying46 rfl size_op' ?_)
  obtain ⟨w1, hw1⟩ : ∃ w1, w1 = wr.alloc (.cells (opv 1 oa on oc oi oat om) tOp) := ⟨_, rfl⟩
  have hb1 : Below wr.heap.size wr w1 := by rw [hw1]; exact al (Below.refl _ _) _
  have hbx1 : w1.heap[wr.heap.size]? = some (.cells (opv 1 oa on oc oi oat om) tOp (0, 0)) := by rw [hw1]; exact heap_alloc_new wr _
  rw [← hw1]
  have hB1 : w.heap.size ≤ w1.heap.size := Nat.le_trans HB.out.size hb1.size
  have HP1 : Hid _ := HP.out.below hb1
  have HBK1 : Hid _ := HBK.out.below hb1
  have HB1 : Hid (Below w.heap.size w w1) := HB.out.trans (hb1.mono HB.out.size)
  have HX1 : Hid _ := hbx1
  obtain ⟨z0, -, z2, z3, z4⟩ := opcell hbx1
  clear hw1 hb1 hbx1
  go_upto_if 78 with fail
  have HA : Hid (Below w1.heap.size w1 (w1.alloc (.cells #[] 5))) := al (Below.refl _ _) _
  have HXA : Hid ((w1.alloc (.cells #[] 5)).cell? ⟨wr.heap.size, 2, none⟩ = some (.int .i64 oi)) := (HA.out.cell (World.block_lt_of_cell? w1 _ z2)).trans z2
  obtain ⟨w2, hw2⟩ : ∃ w2, w2 = w1.alloc (.cells #[] 5) := ⟨_, rfl⟩
  rw [← hw2] at HA HXA ⊢
  clear hw2 z0 z2 z3 z4
  have HP2 : Hid _ := HP1.out.below HA.out
  have HBK2 : Hid _ := HBK1.out.below HA.out
  have HB2 : Hid _ := HB1.out.trans (HA.out.mono hB1)
  clear HP1 HBK1
  obtain ⟨rt, it, p1, p2, p3, p4, p5⟩ := mod_in oi ts.length (by omega)
  have hbig := hbig it p5 (by rw [p1]; exact p4)
  obtain ⟨tb, tof, rfl, htx, htc⟩ := HRt.out it p5
  have d9 : w2.cell? ⟨tb, tof + it, none⟩ = some (.slice ts[it].a ts[it].n ts[it].c) := (HB2.out.cell (World.block_lt_of_cell? w _ htc)).trans htc
  have z9 := HXA.out
  obtain ⟨tq, htq⟩ : ∃ tq, tq = ts[it] := ⟨_, rfl⟩
  rw [← htq] at htx d9 hbig
  obtain ⟨sa, xn, sc, xxs⟩ := tq
  have hxn := htx.hn
  have hxc := htx.lc
  have hxl := htx.le
  simp only at hxn hxc hxl hbig
  subst hxn
  have HNI : Hid _ := htx.nil
  have HRX0 : Hid (Rd w2 sa xxs) := Rd.below htx.rd HB2.out
  have hit : (it : Int) < (ts.length : Int) := by omega
  have hit0 : (0 : Int) ≤ (it : Int) := by omega
  clear htx htc htq
  have hbI : (2044 : Int) < (xxs.length : Int) := by omega
  have hcI : (2044 : Int) ≤ (sc : Int) := by omega
  obtain ⟨tx, htxe⟩ : ∃ tx : List UInt8, tx = xxs.take 2044 := ⟨_, rfl⟩
  have HSL : Hid (2044 = tx.length) := by unfold Hid; rw [htxe, List.length_take]; omega
  have htl2 : tx.length ≤ 2044 := by have := HSL.out; omega
  have HRX : Hid (Rd w2 sa tx) := by unfold Hid; rw [htxe]; exact Rd.take HRX0.out _
  clear htxe HRX0
  go_wp2_with fail
  refine Calls.mono (seal_n sa _ sc tx HSL.out w2 HRX.out HNI.out (by omega) (HTO.out _ HB2.out)) ?_
  rintro e w3 ⟨v3, rfl, hown3, hb3⟩
  obtain ⟨Y, hY⟩ : ∃ Y, Y = tx ++ sealL tx := ⟨_, rfl⟩
  rw [← hY] at hown3
  have hYl : Y.length ≤ 2048 := by rw [hY]; simp [sealL]; omega
  obtain ⟨a3, c3, hu3, -, -, hnil3, hr3, -⟩ := hown3.val
  subst hu3
  have HP3 : Hid _ := HP2.out.below hb3
  have HBK3 : Hid _ := HBK2.out.below hb3
  have HB3 : Hid _ := HB2.out.trans (hb3.mono HB2.out.size)
  have HO3 : Hid _ := hown3
  have HR3 : Hid _ := hr3
  have HN3 : Hid _ := hnil3
  have HY : Hid _ := hY
  clear hown3 hb3 hr3 hnil3 hY HRX HNI
  go_wp2_with fail
  refine Calls.mono (oPut HP3.out (fun b hb => hb.elim) HB3.out.size a3 _ c3 Y rfl HR3.out HN3.out (by omega)) ?_
  rintro e w4 ⟨rfl, hP4, hf4⟩
  have hpm := putL_map (R := R) (Bs := Bs) htl2
  rw [← HY.out] at hpm
  rw [hpm.2] at hP4
  rw [hpm.1]
  have HBK4 : Hid _ := HBK3.out.fr hf4
  have HB4 : Hid _ := HB3.out.trans hf4.bel
  have HO4 : Hid _ := hf4.own HO3.out
  clear hpm hf4
  by_cases hfu : Bs.length = R
  · rw [if_pos hfu] at hP4
    rw [if_pos hfu]
    have HP4 : Hid _ := hP4
    have hNR2 : ¬ (N : Int) < (R : Int) := by have := HNB.out; omega
    have HL4 : Hid ((Bs.map toD).length = N) := by unfold Hid; rw [List.length_map]; exact HNB.out.symm
    clear hP4 hfu
    go_wp2_with (go_at_call 9; refine Calls.mono (oLen' HP4.out HL4.out) ?_; rintro e w9 ⟨rfl, hq⟩; have hq := hq.symm; subst hq)
    refine ⟨?_, ?_⟩
    · unfold WI
      iterate 305 (apply Exists.intro)
      exact ⟨⟨k + 1, F, Bs, by omega, by go_num, HBK4.out, HP4.out, HB4.out⟩, rfl⟩
    · simp [Wmu, intOf]; omega
  · rw [if_neg hfu] at hP4
    rw [if_neg hfu]
    have HP4 : Hid _ := hP4
    have hNR2 : (N : Int) < (R : Int) := by have := HNB.out; omega
    have HNF : Hid (N = F.length) := by unfold Hid; rw [HBK4.out.len]; exact HNB.out
    have h0 : Own w4 w4.heap.size (.slice none 0 0) [] := World.ownsRow_nil _ _ _ _
    have HR4 : Hid _ := Rd.of_own HO4.out
    clear hP4 hfu
    go_wp2_with (first | (at_builtin; refine wp_app rfl _ _ rfl w4.heap.size (.slice none 0 0) [] Y a3 c3 rfl h0 rfl HR4.out HN3.out (by simp; omega) (Nat.le_refl _) ?_; intro v6 w6 hown6 hg6; rw [List.nil_append] at hown6; have hb6 : Below w4.heap.size w4 w6 := (Below.refl _ w4).grown hg6 (Nat.le_refl _) (fun k hk => by cases hk); obtain ⟨a6, c6, hu6, -⟩ := hown6.val; subst hu6; have HO6 : Hid _ := hown6; have HBK6 : Hid _ := HBK4.out.below hb6; have HP6 : Hid _ := HP4.out.below hb6; have HB6 : Hid _ := HB4.out.trans (hb6.mono HB4.out.size); clear hown6 hg6 hb6) | (at_builtin; refine wp_appG1 (K := KS) rfl _ _ rfl w.heap.size (.slice ba N bc) F ⟨a6, Y.length, c6, 0, 0⟩ N HNF.out ⟨w6.heap.size, 0, none⟩ 1 rfl (OwnG.below HBK6.out.row (al (Below.refl _ _) _)) rfl (rdG_lit (heap_alloc_new _ _) rfl) (by show (N + 1) * 40 ≤ _; omega) (by simp only [maxLen]; omega) (by have := HB6.out.size; simp; omega) ?_; intro g5 cap5 w5 hown5 hg5 hat5; have HO5 : Hid _ := hown5; have HG5 : Hid _ := hg5; clear hown5 hg5 hat5))
    obtain ⟨hbv, -⟩ := ByV.of_own false HO6.out
    have hbv2 : ByV w6 ⟨false, a6, Y.length, c6⟩ (sl ⟨tx, 0, 0⟩) := by have h9 := HY.out; unfold sl; rw [← h9]; exact hbv
    have hb3 : Below w6.heap.size w6 (w6.alloc (.cells #[.slice a6 Y.length c6, .int .i64 0, .int .u32 (0 : Int)] tSn)) := al (Below.refl _ _) _
    have hbk3 := HBK6.out.below hb3
    have HBK5 : Hid (Bok w5 w.heap.size (.slice (some ⟨g5, 0, none⟩) (N + 1) cap5) (F ++ [⟨a6, Y.length, c6, 0, 0⟩]) (Bs ++ [(⟨tx, 0, 0⟩ : Bk)])) := hbk3.push HG5.out HO5.out ⟨rfl, rfl, (hbv2.below hb3).bk hbk3 HG5.out, ⟨htl2, by simp only; omega, by simp only; omega, fun h => absurd rfl h⟩⟩
    have HP5 : Hid (On SP w.heap.size X0 w5 w.heap.size R ((Bs ++ [(⟨tx, 0, 0⟩ : Bk)]).map toD)) := (HP6.out.below hb3).bk hbk3 HG5.out
    have HB5 : Hid (Below w.heap.size w w5) := (HB6.out.trans (hb3.mono HB6.out.size)).grown HG5.out (by have := HB6.out.size; simp; omega) (fun j hj => (hbk3.row.lt' hj).1)
    have HL5 : Hid (((Bs ++ [(⟨tx, 0, 0⟩ : Bk)]).map toD).length = N + 1) := by unfold Hid; rw [List.length_map, List.length_append, ← HNB.out]; rfl
    have hNR3 : ¬ (R : Int) < ((N + 1 : Nat) : Int) := by omega
    clear hb3 hbk3
    clear hbv hbv2
    go_wp2_with (go_at_call 9; refine Calls.mono (oLen' HP5.out HL5.out) ?_; rintro e w9 ⟨rfl, hq⟩; have hq := hq.symm; subst hq)
    refine ⟨?_, ?_⟩
    · unfold WI
      iterate 305 (apply Exists.intro)
      exact ⟨⟨k + 1, _, _, by omega, by go_num, HBK5.out, HP5.out, HB5.out⟩, rfl⟩
    · simp [Wmu, intOf]; omega
set_option maxRecDepth 100000 in
set_option maxHeartbeats 12800000 in
theorem tcase1ns (r : Int) (ta : Option Addr) (tcap : Nat) (ts : List Tx) (ao : Option Addr) (cap : Nat) (xs : List OpD) (w : World) (R : Nat) (hRm : R ≤ 1024) (hR0 : 1 ≤ R) (htl : ts.length ≤ 8796093022208) (hl : xs.length ≤ 4398046511103) (HRo : Hid (RdO w ao xs)) (HRt : Hid (RdT w ta ts)) (HTZ : Hid (∀ u, Below w.heap.size w u → TabZ u)) (HTO : Hid (∀ u, Below w.heap.size w u → TabOk u))
    (u6 u9 u12 u13 u14 u15 u16 u17 u18 u19 u20 u21 u22 u23 u24 u25 u26 u27 u28 u29 u30 u31 u32 u33 u34 u35 u36 u37 u38 u39 u40 u41 u42 u43 u44 u45 u46 u47 u48 u49 u50 u51 u52 u53 u54 u55 u56 u57 u58 u59 u60 u61 u62 u63 u64 u65 u66 u67 u68 u69 u70 u71 u72 u73 u74 u75 u76 u77 u78 u79 u80 u81 u82 u83 u84 u85 u86 u87 u88 u89 u90 u91 u92 u93 u94 u95 u96 u97 u98 u99 u100 u101 u102 u103 u104 u105 u106 u107 u108 u109 u110 u111 u112 u113 u114 u115 u116 u117 u118 u119 u120 u121 u122 u123 u124 u125 u126 u127 u128 u129 u130 u131 u132 u133 u134 u135 u136 u137 u138 u139 u140 u141 u142 u143 u144 u145 u146 u147 u148 u149 u150 u151 u152 u153 u154 u155 u156 u157 u158 u159 u160 u161 u162 u163 u164 u165 u166 u167 u168 u169 u170 u171 u172 u173 u174 u175 u176 u177 u178 u179 u180 u181 u182 u183 u184 u185 u186 u187 u188 u189 u190 u191 u192 u193 u194 u195 u196 u197 u198 u199 u200 u201 u202 u203 u204 u205 u206 u207 u208 u209 u210 u211 u212 u213 u214 u215 u216 u217 u218 u219 u220 u221 u222 u223 u224 u225 u226 u227 u228 u229 u230 u231 u232 u233 u234 u235 u236 u237 u238 u239 u240 u241 u242 u243 u244 u245 u246 u247 u248 u249 u250 u251 u252 u253 u254 u255 u256 u257 u258 u259 u260 u261 u262 u263 u264 u265 u266 u267 u268 u269 u270 u271 u272 u273 u274 u275 u276 u277 u278 u279 u280 u281 u282 u283 u284 u285 u286 u287 u288 u289 u290 u291 u292 u293 u294 u295 u296 u297 u298 u299 u300 u301 u302 u303 u304 u305 u306 u307 u308 u309 u310 u311 u312 : Value) (wr : World) (k : Nat) (F : List Sc) (Bs : List Bk) (ba : Option Addr) (N bc : Nat) (hk : k ≤ xs.length) (hNbc : N ≤ bc) (HNB : Hid (N = Bs.length)) (hNR : N ≤ R) (HBK : Hid (Bok wr w.heap.size (.slice ba N bc) F Bs)) (HP : Hid (On SP w.heap.size X0 wr w.heap.size R (Bs.map toD))) (HB : Hid (Below w.heap.size w wr)) (hlt : k < xs.length) (hkd : xs[k].kd = 1) (hN0 : ¬ N = 0) (ht0 : ¬ ts.length = 0) (hbig : ∀ (it : Nat) (p5 : it < ts.length), (xs[k].i.tmod (ts.length : Int) + (ts.length : Int)).tmod (ts.length : Int) = (it : Int) → ¬ 2044 < ts[it].n) (Q0 : Exit → Act → World → Prop) :
    Code.wp Tryd.prog (TB Tryd.f5.body) (Exit.then (fun a' w'' => WI r ta tcap ts ao cap xs w R a' w'' ∧ Wmu xs.length a' w'' < Wmu xs.length ⟨#[.int .i64 r, .slice ta ts.length tcap, .slice ao xs.length cap, undef, undef, undef, u6, .int .i64 (R : Int), .pointer (some ⟨w.heap.size, 0, none⟩), u9, .slice ba N bc, .int .i64 k, u12, u13, u14, u15, u16, u17, u18, u19, u20, u21, u22, u23, u24, u25, u26, u27, u28, u29, u30, u31, u32, u33, u34, u35, u36, u37, u38, u39, u40, u41, u42, u43, u44, u45, u46, u47, u48, u49, u50, u51, u52, u53, u54, u55, u56, u57, u58, u59, u60, u61, u62, u63, u64, u65, u66, u67, u68, u69, u70, u71, u72, u73, u74, u75, u76, u77, u78, u79, u80, u81, u82, u83, u84, u85, u86, u87, u88, u89, u90, u91, u92, u93, u94, u95, u96, u97, u98, u99, u100, u101, u102, u103, u104, u105, u106, u107, u108, u109, u110, u111, u112, u113, u114, u115, u116, u117, u118, u119, u120, u121, u122, u123, u124, u125, u126, u127, u128, u129, u130, u131, u132, u133, u134, u135, u136, u137, u138, u139, u140, u141, u142, u143, u144, u145, u146, u147, u148, u149, u150, u151, u152, u153, u154, u155, u156, u157, u158, u159, u160, u161, u162, u163, u164, u165, u166, u167, u168, u169, u170, u171, u172, u173, u174, u175, u176, u177, u178, u179, u180, u181, u182, u183, u184, u185, u186, u187, u188, u189, u190, u191, u192, u193, u194, u195, u196, u197, u198, u199, u200, u201, u202, u203, u204, u205, u206, u207, u208, u209, u210, u211, u212, u213, u214, u215, u216, u217, u218, u219, u220, u221, u222, u223, u224, u225, u226, u227, u228, u229, u230, u231, u232, u233, u234, u235, u236, u237, u238, u239, u240, u241, u242, u243, u244, u245, u246, u247, u248, u249, u250, u251, u252, u253, u254, u255, u256, u257, u258, u259, u260, u261, u262, u263, u264, u265, u266, u267, u268, u269, u270, u271, u272, u273, u274, u275, u276, u277, u278, u279, u280, u281, u282, u283, u284, u285, u286, u287, u288, u289, u290, u291, u292, u293, u294, u295, u296, u297, u298, u299, u300, u301, u302, u303, u304, u305, u306, u307, u308, u309, u310, u311, u312, undef, undef, undef, undef, undef, undef, undef, undef, undef, undef, undef, undef, undef, undef, undef, undef, undef, undef, undef, undef, undef, undef, undef, undef, undef], []⟩ wr) Q0) ⟨#[.int .i64 r, .slice ta ts.length tcap, .slice ao xs.length cap, undef, undef, undef, u6, .int .i64 (R : Int), .pointer (some ⟨w.heap.size, 0, none⟩), u9, .slice ba N bc, .int .i64 k, u12, u13, u14, u15, u16, u17, u18, u19, u20, u21, u22, u23, u24, u25, u26, u27, u28, u29, u30, u31, u32, u33, u34, u35, u36, u37, u38, u39, u40, u41, u42, u43, u44, u45, u46, u47, u48, u49, u50, u51, u52, u53, u54, u55, u56, u57, u58, u59, u60, u61, u62, u63, u64, u65, u66, u67, u68, u69, u70, u71, u72, u73, u74, u75, u76, u77, u78, u79, u80, u81, u82, u83, u84, u85, u86, u87, u88, u89, u90, u91, u92, u93, u94, u95, u96, u97, u98, u99, u100, u101, u102, u103, u104, u105, u106, u107, u108, u109, u110, u111, u112, u113, u114, u115, u116, u117, u118, u119, u120, u121, u122, u123, u124, u125, u126, u127, u128, u129, u130, u131, u132, u133, u134, u135, u136, u137, u138, u139, u140, u141, u142, u143, u144, u145, u146, u147, u148, u149, u150, u151, u152, u153, u154, u155, u156, u157, u158, u159, u160, u161, u162, u163, u164, u165, u166, u167, u168, u169, u170, u171, u172, u173, u174, u175, u176, u177, u178, u179, u180, u181, u182, u183, u184, u185, u186, u187, u188, u189, u190, u191, u192, u193, u194, u195, u196, u197, u198, u199, u200, u201, u202, u203, u204, u205, u206, u207, u208, u209, u210, u211, u212, u213, u214, u215, u216, u217, u218, u219, u220, u221, u222, u223, u224, u225, u226, u227, u228, u229, u230, u231, u232, u233, u234, u235, u236, u237, u238, u239, u240, u241, u242, u243, u244, u245, u246, u247, u248, u249, u250, u251, u252, u253, u254, u255, u256, u257, u258, u259, u260, u261, u262, u263, u264, u265, u266, u267, u268, u269, u270, u271, u272, u273, u274, u275, u276, u277, u278, u279, u280, u281, u282, u283, u284, u285, u286, u287, u288, u289, u290, u291, u292, u293, u294, u295, u296, u297, u298, u299, u300, u301, u302, u303, u304, u305, u306, u307, u308, u309, u310, u311, u312, undef, undef, undef, undef, undef, undef, undef, undef, undef, undef, undef, undef, undef, undef, undef, undef, undef, undef, undef, undef, undef, undef, undef, undef, undef], []⟩ wr := by
  conv => arg 2; whnf
  obtain ⟨b, o, rfl, hok, hrg⟩ := HRo.out k hlt
  obtain ⟨op, hop⟩ : ∃ op, op = xs[k] := ⟨_, rfl⟩
  rw [← hop] at hok hrg hkd hbig
  obtain ⟨kd, oi, oat, om, oa, on, oc, oxs⟩ := op
  simp only at hkd hbig
  subst hkd
  have HOK : Hid _ := hok
  have HRG : Hid _ := rangeAt_below hrg HB.out
  have hk0 : (0 : Int) ≤ (k : Int) := by omega
  have hkI : (k : Int) < (xs.length : Int) := by omega
  have hoi := hok.hi
  simp only at hoi
  obtain ⟨hoi0, hoi1⟩ := hoi
  clear hop hok hrg
  have hNp : (0 : Int) < (N : Int) := by omega
  obtain ⟨rr, kk, q1, q2, q3, q4, q5⟩ := mod_in oi N (by omega)
  clear hN0
  have ht0I : (0 : Int) < (ts.length : Int) := by omega
  clear ht0
  go_upto_if 56 with (refine wpList_load_mid rfl tOp _ rfl b (o + k * 5) rfl (opl ⟨1, oi, oat, om, oa, on, oc, oxs⟩) _ HRG.out Tryd.underlying46 rfl size_op' ?_)
  obtain ⟨w1, hw1⟩ : ∃ w1, w1 = wr.alloc (.cells (opv 1 oa on oc oi oat om) tOp) := ⟨_, rfl⟩
  have hb1 : Below wr.heap.size wr w1 := by rw [hw1]; exact al (Below.refl _ _) _
  have hbx1 : w1.heap[wr.heap.size]? = some (.cells (opv 1 oa on oc oi oat om) tOp (0, 0)) := by rw [hw1]; exact heap_alloc_new wr _
  rw [← hw1]
  have hB1 : w.heap.size ≤ w1.heap.size := Nat.le_trans HB.out.size hb1.size
  have HP1 : Hid _ := HP.out.below hb1
  have HBK1 : Hid _ := HBK.out.below hb1
  have HB1 : Hid (Below w.heap.size w w1) := HB.out.trans (hb1.mono HB.out.size)
  have HX1 : Hid _ := hbx1
  obtain ⟨z0, -, z2, z3, z4⟩ := opcell hbx1
  clear hw1 hb1 hbx1
  go_upto_if 78 with fail
  have HA : Hid (Below w1.heap.size w1 (w1.alloc (.cells #[] 5))) := al (Below.refl _ _) _
  have HXA : Hid ((w1.alloc (.cells #[] 5)).cell? ⟨wr.heap.size, 2, none⟩ = some (.int .i64 oi)) := (HA.out.cell (World.block_lt_of_cell? w1 _ z2)).trans z2
  obtain ⟨w2, hw2⟩ : ∃ w2, w2 = w1.alloc (.cells #[] 5) := ⟨_, rfl⟩
  rw [← hw2] at HA HXA ⊢
  clear hw2 z0 z2 z3 z4
  have HP2 : Hid _ := HP1.out.below HA.out
  have HBK2 : Hid _ := HBK1.out.below HA.out
  have HB2 : Hid _ := HB1.out.trans (HA.out.mono hB1)
  clear HP1 HBK1
  obtain ⟨rt, it, p1, p2, p3, p4, p5⟩ := mod_in oi ts.length (by omega)
  have hbig := hbig it p5 (by rw [p1]; exact p4)
  obtain ⟨tb, tof, rfl, htx, htc⟩ := HRt.out it p5
  have d9 : w2.cell? ⟨tb, tof + it, none⟩ = some (.slice ts[it].a ts[it].n ts[it].c) := (HB2.out.cell (World.block_lt_of_cell? w _ htc)).trans htc
  have z9 := HXA.out
  obtain ⟨tq, htq⟩ : ∃ tq, tq = ts[it] := ⟨_, rfl⟩
  rw [← htq] at htx d9 hbig
  obtain ⟨sa, xn, sc, xxs⟩ := tq
  have hxn := htx.hn
  have hxc := htx.lc
  have hxl := htx.le
  simp only at hxn hxc hxl hbig
  subst hxn
  have HNI : Hid _ := htx.nil
  have HRX0 : Hid (Rd w2 sa xxs) := Rd.below htx.rd HB2.out
  have hit : (it : Int) < (ts.length : Int) := by omega
  have hit0 : (0 : Int) ≤ (it : Int) := by omega
  clear htx htc htq
  have hbI : ¬ (2044 : Int) < (xxs.length : Int) := by omega
  obtain ⟨tx, htxe⟩ : ∃ tx : List UInt8, tx = xxs := ⟨_, rfl⟩
  have HSL : Hid (xxs.length = tx.length) := by unfold Hid; rw [htxe]
  have htl2 : tx.length ≤ 2044 := by have := HSL.out; omega
  have HRX : Hid (Rd w2 sa tx) := by unfold Hid; rw [htxe]; exact HRX0.out
  clear htxe HRX0
  go_wp2_with fail
  refine Calls.mono (seal_n sa _ sc tx HSL.out w2 HRX.out HNI.out (by omega) (HTO.out _ HB2.out)) ?_
  rintro e w3 ⟨v3, rfl, hown3, hb3⟩
  obtain ⟨Y, hY⟩ : ∃ Y, Y = tx ++ sealL tx := ⟨_, rfl⟩
  rw [← hY] at hown3
  have hYl : Y.length ≤ 2048 := by rw [hY]; simp [sealL]; omega
  obtain ⟨a3, c3, hu3, -, -, hnil3, hr3, -⟩ := hown3.val
  subst hu3
  have HP3 : Hid _ := HP2.out.below hb3
  have HBK3 : Hid _ := HBK2.out.below hb3
  have HB3 : Hid _ := HB2.out.trans (hb3.mono HB2.out.size)
  have HO3 : Hid _ := hown3
  have HR3 : Hid _ := hr3
  have HN3 : Hid _ := hnil3
  have HY : Hid _ := hY
  clear hown3 hb3 hr3 hnil3 hY HRX HNI
  go_wp2_with fail
  refine Calls.mono (oPut HP3.out (fun b hb => hb.elim) HB3.out.size a3 _ c3 Y rfl HR3.out HN3.out (by omega)) ?_
  rintro e w4 ⟨rfl, hP4, hf4⟩
  have hpm := putL_map (R := R) (Bs := Bs) htl2
  rw [← HY.out] at hpm
  rw [hpm.2] at hP4
  rw [hpm.1]
  have HBK4 : Hid _ := HBK3.out.fr hf4
  have HB4 : Hid _ := HB3.out.trans hf4.bel
  have HO4 : Hid _ := hf4.own HO3.out
  clear hpm hf4
  by_cases hfu : Bs.length = R
  · rw [if_pos hfu] at hP4
    rw [if_pos hfu]
    have HP4 : Hid _ := hP4
    have hNR2 : ¬ (N : Int) < (R : Int) := by have := HNB.out; omega
    have HL4 : Hid ((Bs.map toD).length = N) := by unfold Hid; rw [List.length_map]; exact HNB.out.symm
    clear hP4 hfu
    go_wp2_with (go_at_call 9; refine Calls.mono (oLen' HP4.out HL4.out) ?_; rintro e w9 ⟨rfl, hq⟩; have hq := hq.symm; subst hq)
    refine ⟨?_, ?_⟩
    · unfold WI
      iterate 305 (apply Exists.intro)
      exact ⟨⟨k + 1, F, Bs, by omega, by go_num, HBK4.out, HP4.out, HB4.out⟩, rfl⟩
    · simp [Wmu, intOf]; omega
  · rw [if_neg hfu] at hP4
    rw [if_neg hfu]
    have HP4 : Hid _ := hP4
    have hNR2 : (N : Int) < (R : Int) := by have := HNB.out; omega
    have HNF : Hid (N = F.length) := by unfold Hid; rw [HBK4.out.len]; exact HNB.out
    have h0 : Own w4 w4.heap.size (.slice none 0 0) [] := World.ownsRow_nil _ _ _ _
    have HR4 : Hid _ := Rd.of_own HO4.out
    clear hP4 hfu
    go_wp2_with (first | (at_builtin; refine wp_app rfl _ _ rfl w4.heap.size (.slice none 0 0) [] Y a3 c3 rfl h0 rfl HR4.out HN3.out (by simp; omega) (Nat.le_refl _) ?_; intro v6 w6 hown6 hg6; rw [List.nil_append] at hown6; have hb6 : Below w4.heap.size w4 w6 := (Below.refl _ w4).grown hg6 (Nat.le_refl _) (fun k hk => by cases hk); obtain ⟨a6, c6, hu6, -⟩ := hown6.val; subst hu6; have HO6 : Hid _ := hown6; have HBK6 : Hid _ := HBK4.out.below hb6; have HP6 : Hid _ := HP4.out.below hb6; have HB6 : Hid _ := HB4.out.trans (hb6.mono HB4.out.size); clear hown6 hg6 hb6) | (at_builtin; refine wp_appG1 (K := KS) rfl _ _ rfl w.heap.size (.slice ba N bc) F ⟨a6, Y.length, c6, 0, 0⟩ N HNF.out ⟨w6.heap.size, 0, none⟩ 1 rfl (OwnG.below HBK6.out.row (al (Below.refl _ _) _)) rfl (rdG_lit (heap_alloc_new _ _) rfl) (by show (N + 1) * 40 ≤ _; omega) (by simp only [maxLen]; omega) (by have := HB6.out.size; simp; omega) ?_; intro g5 cap5 w5 hown5 hg5 hat5; have HO5 : Hid _ := hown5; have HG5 : Hid _ := hg5; clear hown5 hg5 hat5))
    obtain ⟨hbv, -⟩ := ByV.of_own false HO6.out
    have hbv2 : ByV w6 ⟨false, a6, Y.length, c6⟩ (sl ⟨tx, 0, 0⟩) := by have h9 := HY.out; unfold sl; rw [← h9]; exact hbv
    have hb3 : Below w6.heap.size w6 (w6.alloc (.cells #[.slice a6 Y.length c6, .int .i64 0, .int .u32 (0 : Int)] tSn)) := al (Below.refl _ _) _
    have hbk3 := HBK6.out.below hb3
    have HBK5 : Hid (Bok w5 w.heap.size (.slice (some ⟨g5, 0, none⟩) (N + 1) cap5) (F ++ [⟨a6, Y.length, c6, 0, 0⟩]) (Bs ++ [(⟨tx, 0, 0⟩ : Bk)])) := hbk3.push HG5.out HO5.out ⟨rfl, rfl, (hbv2.below hb3).bk hbk3 HG5.out, ⟨htl2, by simp only; omega, by simp only; omega, fun h => absurd rfl h⟩⟩
    have HP5 : Hid (On SP w.heap.size X0 w5 w.heap.size R ((Bs ++ [(⟨tx, 0, 0⟩ : Bk)]).map toD)) := (HP6.out.below hb3).bk hbk3 HG5.out
    have HB5 : Hid (Below w.heap.size w w5) := (HB6.out.trans (hb3.mono HB6.out.size)).grown HG5.out (by have := HB6.out.size; simp; omega) (fun j hj => (hbk3.row.lt' hj).1)
    have HL5 : Hid (((Bs ++ [(⟨tx, 0, 0⟩ : Bk)]).map toD).length = N + 1) := by unfold Hid; rw [List.length_map, List.length_append, ← HNB.out]; rfl
    have hNR3 : ¬ (R : Int) < ((N + 1 : Nat) : Int) := by omega
    clear hb3 hbk3
    clear hbv hbv2
    go_wp2_with (go_at_call 9; refine Calls.mono (oLen' HP5.out HL5.out) ?_; rintro e w9 ⟨rfl, hq⟩; have hq := hq.symm; subst hq)
    refine ⟨?_, ?_⟩
    · unfold WI
      iterate 305 (apply Exists.intro)
      exact ⟨⟨k + 1, _, _, by omega, by go_num, HBK5.out, HP5.out, HB5.out⟩, rfl⟩
    · simp [Wmu, intOf]; omega
end Go.Proofs.YtnpcgegcoakbmaaDoor
