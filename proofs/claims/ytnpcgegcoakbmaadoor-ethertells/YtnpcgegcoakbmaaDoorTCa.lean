import Derived.Test.YtnpcgegcoakbmaaDoorTEw
namespace Go.Proofs.YtnpcgegcoakbmaaDoor
set_option linter.unusedVariables false
set_option linter.unusedSimpArgs false
open Go.RowKit
set_option maxRecDepth 100000 in
set_option maxHeartbeats 12800000 in
theorem tcase5z (r : Int) (ta : Option Addr) (tcap : Nat) (ts : List Tx) (ao : Option Addr) (cap : Nat) (xs : List OpD) (w : World) (R : Nat) (hRm : R ≤ 1024) (hR0 : 1 ≤ R) (htl : ts.length ≤ 8796093022208) (hl : xs.length ≤ 4398046511103) (HRo : Hid (RdO w ao xs)) (HRt : Hid (RdT w ta ts)) (HTZ : Hid (∀ u, Below w.heap.size w u → TabZ u)) (HTO : Hid (∀ u, Below w.heap.size w u → TabOk u))
    (u6 u9 u12 u13 u14 u15 u16 u17 u18 u19 u20 u21 u22 u23 u24 u25 u26 u27 u28 u29 u30 u31 u32 u33 u34 u35 u36 u37 u38 u39 u40 u41 u42 u43 u44 u45 u46 u47 u48 u49 u50 u51 u52 u53 u54 u55 u56 u57 u58 u59 u60 u61 u62 u63 u64 u65 u66 u67 u68 u69 u70 u71 u72 u73 u74 u75 u76 u77 u78 u79 u80 u81 u82 u83 u84 u85 u86 u87 u88 u89 u90 u91 u92 u93 u94 u95 u96 u97 u98 u99 u100 u101 u102 u103 u104 u105 u106 u107 u108 u109 u110 u111 u112 u113 u114 u115 u116 u117 u118 u119 u120 u121 u122 u123 u124 u125 u126 u127 u128 u129 u130 u131 u132 u133 u134 u135 u136 u137 u138 u139 u140 u141 u142 u143 u144 u145 u146 u147 u148 u149 u150 u151 u152 u153 u154 u155 u156 u157 u158 u159 u160 u161 u162 u163 u164 u165 u166 u167 u168 u169 u170 u171 u172 u173 u174 u175 u176 u177 u178 u179 u180 u181 u182 u183 u184 u185 u186 u187 u188 u189 u190 u191 u192 u193 u194 u195 u196 u197 u198 u199 u200 u201 u202 u203 u204 u205 u206 u207 u208 u209 u210 u211 u212 u213 u214 u215 u216 u217 u218 u219 u220 u221 u222 u223 u224 u225 u226 u227 u228 u229 u230 u231 u232 u233 u234 u235 u236 u237 u238 u239 u240 u241 u242 u243 u244 u245 u246 u247 u248 u249 u250 u251 u252 u253 u254 u255 u256 u257 u258 u259 u260 u261 u262 u263 u264 u265 u266 u267 u268 u269 u270 u271 u272 u273 u274 u275 u276 u277 u278 u279 u280 u281 u282 u283 u284 u285 u286 u287 u288 u289 u290 u291 u292 u293 u294 u295 u296 u297 u298 u299 u300 u301 u302 u303 u304 u305 u306 u307 u308 u309 u310 u311 u312 : Value) (wr : World) (k : Nat) (F : List Sc) (Bs : List Bk) (ba : Option Addr) (N bc : Nat) (hk : k ≤ xs.length) (hNbc : N ≤ bc) (HNB : Hid (N = Bs.length)) (hNR : N ≤ R) (HBK : Hid (Bok wr w.heap.size (.slice ba N bc) F Bs)) (HP : Hid (On SP w.heap.size X0 wr w.heap.size R (Bs.map toD))) (HB : Hid (Below w.heap.size w wr)) (hlt : k < xs.length) (hkd : xs[k].kd = 5) (hN0 : N = 0) (Q0 : Exit → Act → World → Prop) :
    Code.wp Tryd.prog (TB Tryd.f5.body) (Exit.then (fun a' w'' => WI r ta tcap ts ao cap xs w R a' w'' ∧ Wmu xs.length a' w'' < Wmu xs.length ⟨#[.int .i64 r, .slice ta ts.length tcap, .slice ao xs.length cap, undef, undef, undef, u6, .int .i64 (R : Int), .pointer (some ⟨w.heap.size, 0, none⟩), u9, .slice ba N bc, .int .i64 k, u12, u13, u14, u15, u16, u17, u18, u19, u20, u21, u22, u23, u24, u25, u26, u27, u28, u29, u30, u31, u32, u33, u34, u35, u36, u37, u38, u39, u40, u41, u42, u43, u44, u45, u46, u47, u48, u49, u50, u51, u52, u53, u54, u55, u56, u57, u58, u59, u60, u61, u62, u63, u64, u65, u66, u67, u68, u69, u70, u71, u72, u73, u74, u75, u76, u77, u78, u79, u80, u81, u82, u83, u84, u85, u86, u87, u88, u89, u90, u91, u92, u93, u94, u95, u96, u97, u98, u99, u100, u101, u102, u103, u104, u105, u106, u107, u108, u109, u110, u111, u112, u113, u114, u115, u116, u117, u118, u119, u120, u121, u122, u123, u124, u125, u126, u127, u128, u129, u130, u131, u132, u133, u134, u135, u136, u137, u138, u139, u140, u141, u142, u143, u144, u145, u146, u147, u148, u149, u150, u151, u152, u153, u154, u155, u156, u157, u158, u159, u160, u161, u162, u163, u164, u165, u166, u167, u168, u169, u170, u171, u172, u173, u174, u175, u176, u177, u178, u179, u180, u181, u182, u183, u184, u185, u186, u187, u188, u189, u190, u191, u192, u193, u194, u195, u196, u197, u198, u199, u200, u201, u202, u203, u204, u205, u206, u207, u208, u209, u210, u211, u212, u213, u214, u215, u216, u217, u218, u219, u220, u221, u222, u223, u224, u225, u226, u227, u228, u229, u230, u231, u232, u233, u234, u235, u236, u237, u238, u239, u240, u241, u242, u243, u244, u245, u246, u247, u248, u249, u250, u251, u252, u253, u254, u255, u256, u257, u258, u259, u260, u261, u262, u263, u264, u265, u266, u267, u268, u269, u270, u271, u272, u273, u274, u275, u276, u277, u278, u279, u280, u281, u282, u283, u284, u285, u286, u287, u288, u289, u290, u291, u292, u293, u294, u295, u296, u297, u298, u299, u300, u301, u302, u303, u304, u305, u306, u307, u308, u309, u310, u311, u312, undef, undef, undef, undef, undef, undef, undef, undef, undef, undef, undef, undef, undef, undef, undef, undef, undef, undef, undef, undef, undef, undef, undef, undef, undef], []⟩ wr) Q0) ⟨#[.int .i64 r, .slice ta ts.length tcap, .slice ao xs.length cap, undef, undef, undef, u6, .int .i64 (R : Int), .pointer (some ⟨w.heap.size, 0, none⟩), u9, .slice ba N bc, .int .i64 k, u12, u13, u14, u15, u16, u17, u18, u19, u20, u21, u22, u23, u24, u25, u26, u27, u28, u29, u30, u31, u32, u33, u34, u35, u36, u37, u38, u39, u40, u41, u42, u43, u44, u45, u46, u47, u48, u49, u50, u51, u52, u53, u54, u55, u56, u57, u58, u59, u60, u61, u62, u63, u64, u65, u66, u67, u68, u69, u70, u71, u72, u73, u74, u75, u76, u77, u78, u79, u80, u81, u82, u83, u84, u85, u86, u87, u88, u89, u90, u91, u92, u93, u94, u95, u96, u97, u98, u99, u100, u101, u102, u103, u104, u105, u106, u107, u108, u109, u110, u111, u112, u113, u114, u115, u116, u117, u118, u119, u120, u121, u122, u123, u124, u125, u126, u127, u128, u129, u130, u131, u132, u133, u134, u135, u136, u137, u138, u139, u140, u141, u142, u143, u144, u145, u146, u147, u148, u149, u150, u151, u152, u153, u154, u155, u156, u157, u158, u159, u160, u161, u162, u163, u164, u165, u166, u167, u168, u169, u170, u171, u172, u173, u174, u175, u176, u177, u178, u179, u180, u181, u182, u183, u184, u185, u186, u187, u188, u189, u190, u191, u192, u193, u194, u195, u196, u197, u198, u199, u200, u201, u202, u203, u204, u205, u206, u207, u208, u209, u210, u211, u212, u213, u214, u215, u216, u217, u218, u219, u220, u221, u222, u223, u224, u225, u226, u227, u228, u229, u230, u231, u232, u233, u234, u235, u236, u237, u238, u239, u240, u241, u242, u243, u244, u245, u246, u247, u248, u249, u250, u251, u252, u253, u254, u255, u256, u257, u258, u259, u260, u261, u262, u263, u264, u265, u266, u267, u268, u269, u270, u271, u272, u273, u274, u275, u276, u277, u278, u279, u280, u281, u282, u283, u284, u285, u286, u287, u288, u289, u290, u291, u292, u293, u294, u295, u296, u297, u298, u299, u300, u301, u302, u303, u304, u305, u306, u307, u308, u309, u310, u311, u312, undef, undef, undef, undef, undef, undef, undef, undef, undef, undef, undef, undef, undef, undef, undef, undef, undef, undef, undef, undef, undef, undef, undef, undef, undef], []⟩ wr := by
  conv => arg 2; whnf
  obtain ⟨b, o, rfl, hok, hrg⟩ := HRo.out k hlt
  obtain ⟨op, hop⟩ : ∃ op, op = xs[k] := ⟨_, rfl⟩
  rw [← hop] at hok hrg hkd
  obtain ⟨kd, oi, oat, om, oa, on, oc, oxs⟩ := op
  simp only at hkd
  subst hkd
  have HOK : Hid _ := hok
  have HRG : Hid _ := rangeAt_below hrg HB.out
  have hk0 : (0 : Int) ≤ (k : Int) := by omega
  have hkI : (k : Int) < (xs.length : Int) := by omega
  have hoi := hok.hi
  simp only at hoi
  obtain ⟨hoi0, hoi1⟩ := hoi
  clear hop hok hrg
  have hNz : ¬ (0 : Int) < (N : Int) := by omega
  have HN0 : Hid (N = 0) := hN0
  clear hN0
  go_upto_region 15 with (refine wpList_load_mid rfl tOp _ rfl b (o + k * 5) rfl (opl ⟨5, oi, oat, om, oa, on, oc, oxs⟩) _ HRG.out Tryd.underlying46 rfl size_op' ?_)
  obtain ⟨w1, hw1⟩ : ∃ w1, w1 = wr.alloc (.cells (opv 5 oa on oc oi oat om) tOp) := ⟨_, rfl⟩
  have hb1 : Below wr.heap.size wr w1 := by rw [hw1]; exact al (Below.refl _ _) _
  have hbx1 : w1.heap[wr.heap.size]? = some (.cells (opv 5 oa on oc oi oat om) tOp (0, 0)) := by rw [hw1]; exact heap_alloc_new wr _
  rw [← hw1]
  have hB1 : w.heap.size ≤ w1.heap.size := Nat.le_trans HB.out.size hb1.size
  have HP1 : Hid _ := HP.out.below hb1
  have HBK1 : Hid _ := HBK.out.below hb1
  have HB1 : Hid (Below w.heap.size w w1) := HB.out.trans (hb1.mono HB.out.size)
  have HX1 : Hid _ := hbx1
  obtain ⟨z0, -, z2, z3, z4⟩ := opcell hbx1
  clear hw1 hb1 hbx1
  go_wp2_with fail
  refine Calls.mono (oDouble HP1.out (fun b hb => hb.elim) hB1 oi) ?_
  rintro e w2 ⟨rfl, hP2, hf2⟩
  have he : dblE R (Bs.map toD) oi = 4 := by unfold dblE; rw [if_neg (by rw [List.length_map, ← HNB.out, HN0.out]; omega)]
  have hL : dblL R (Bs.map toD) oi = Bs.map toD := by unfold dblL; rw [if_neg (by rw [List.length_map, ← HNB.out, HN0.out]; omega)]
  rw [he]
  rw [hL] at hP2
  have HP2 : Hid _ := hP2
  have HBK2 : Hid _ := HBK1.out.fr hf2
  have HB2 : Hid _ := HB1.out.trans hf2.bel
  have HL2 : Hid ((Bs.map toD).length = N) := by unfold Hid; rw [List.length_map]; exact HNB.out.symm
  clear he hL hP2 hf2
  go_wp2_with (go_at_call 9; refine Calls.mono (oLen' HP2.out HL2.out) ?_; rintro e w9 ⟨rfl, hq⟩; have hq := hq.symm; subst hq)
  refine ⟨?_, ?_⟩
  · unfold WI
    iterate 305 (apply Exists.intro)
    exact ⟨⟨k + 1, F, Bs, by omega, by go_num, HBK2.out, HP2.out, HB2.out⟩, rfl⟩
  · simp [Wmu, intOf]; omega
set_option maxRecDepth 100000 in
set_option maxHeartbeats 12800000 in
theorem tcase4z (r : Int) (ta : Option Addr) (tcap : Nat) (ts : List Tx) (ao : Option Addr) (cap : Nat) (xs : List OpD) (w : World) (R : Nat) (hRm : R ≤ 1024) (hR0 : 1 ≤ R) (htl : ts.length ≤ 8796093022208) (hl : xs.length ≤ 4398046511103) (HRo : Hid (RdO w ao xs)) (HRt : Hid (RdT w ta ts)) (HTZ : Hid (∀ u, Below w.heap.size w u → TabZ u)) (HTO : Hid (∀ u, Below w.heap.size w u → TabOk u))
    (u6 u9 u12 u13 u14 u15 u16 u17 u18 u19 u20 u21 u22 u23 u24 u25 u26 u27 u28 u29 u30 u31 u32 u33 u34 u35 u36 u37 u38 u39 u40 u41 u42 u43 u44 u45 u46 u47 u48 u49 u50 u51 u52 u53 u54 u55 u56 u57 u58 u59 u60 u61 u62 u63 u64 u65 u66 u67 u68 u69 u70 u71 u72 u73 u74 u75 u76 u77 u78 u79 u80 u81 u82 u83 u84 u85 u86 u87 u88 u89 u90 u91 u92 u93 u94 u95 u96 u97 u98 u99 u100 u101 u102 u103 u104 u105 u106 u107 u108 u109 u110 u111 u112 u113 u114 u115 u116 u117 u118 u119 u120 u121 u122 u123 u124 u125 u126 u127 u128 u129 u130 u131 u132 u133 u134 u135 u136 u137 u138 u139 u140 u141 u142 u143 u144 u145 u146 u147 u148 u149 u150 u151 u152 u153 u154 u155 u156 u157 u158 u159 u160 u161 u162 u163 u164 u165 u166 u167 u168 u169 u170 u171 u172 u173 u174 u175 u176 u177 u178 u179 u180 u181 u182 u183 u184 u185 u186 u187 u188 u189 u190 u191 u192 u193 u194 u195 u196 u197 u198 u199 u200 u201 u202 u203 u204 u205 u206 u207 u208 u209 u210 u211 u212 u213 u214 u215 u216 u217 u218 u219 u220 u221 u222 u223 u224 u225 u226 u227 u228 u229 u230 u231 u232 u233 u234 u235 u236 u237 u238 u239 u240 u241 u242 u243 u244 u245 u246 u247 u248 u249 u250 u251 u252 u253 u254 u255 u256 u257 u258 u259 u260 u261 u262 u263 u264 u265 u266 u267 u268 u269 u270 u271 u272 u273 u274 u275 u276 u277 u278 u279 u280 u281 u282 u283 u284 u285 u286 u287 u288 u289 u290 u291 u292 u293 u294 u295 u296 u297 u298 u299 u300 u301 u302 u303 u304 u305 u306 u307 u308 u309 u310 u311 u312 : Value) (wr : World) (k : Nat) (F : List Sc) (Bs : List Bk) (ba : Option Addr) (N bc : Nat) (hk : k ≤ xs.length) (hNbc : N ≤ bc) (HNB : Hid (N = Bs.length)) (hNR : N ≤ R) (HBK : Hid (Bok wr w.heap.size (.slice ba N bc) F Bs)) (HP : Hid (On SP w.heap.size X0 wr w.heap.size R (Bs.map toD))) (HB : Hid (Below w.heap.size w wr)) (hlt : k < xs.length) (hkd : xs[k].kd = 4) (hN0 : N = 0) (Q0 : Exit → Act → World → Prop) :
    Code.wp Tryd.prog (TB Tryd.f5.body) (Exit.then (fun a' w'' => WI r ta tcap ts ao cap xs w R a' w'' ∧ Wmu xs.length a' w'' < Wmu xs.length ⟨#[.int .i64 r, .slice ta ts.length tcap, .slice ao xs.length cap, undef, undef, undef, u6, .int .i64 (R : Int), .pointer (some ⟨w.heap.size, 0, none⟩), u9, .slice ba N bc, .int .i64 k, u12, u13, u14, u15, u16, u17, u18, u19, u20, u21, u22, u23, u24, u25, u26, u27, u28, u29, u30, u31, u32, u33, u34, u35, u36, u37, u38, u39, u40, u41, u42, u43, u44, u45, u46, u47, u48, u49, u50, u51, u52, u53, u54, u55, u56, u57, u58, u59, u60, u61, u62, u63, u64, u65, u66, u67, u68, u69, u70, u71, u72, u73, u74, u75, u76, u77, u78, u79, u80, u81, u82, u83, u84, u85, u86, u87, u88, u89, u90, u91, u92, u93, u94, u95, u96, u97, u98, u99, u100, u101, u102, u103, u104, u105, u106, u107, u108, u109, u110, u111, u112, u113, u114, u115, u116, u117, u118, u119, u120, u121, u122, u123, u124, u125, u126, u127, u128, u129, u130, u131, u132, u133, u134, u135, u136, u137, u138, u139, u140, u141, u142, u143, u144, u145, u146, u147, u148, u149, u150, u151, u152, u153, u154, u155, u156, u157, u158, u159, u160, u161, u162, u163, u164, u165, u166, u167, u168, u169, u170, u171, u172, u173, u174, u175, u176, u177, u178, u179, u180, u181, u182, u183, u184, u185, u186, u187, u188, u189, u190, u191, u192, u193, u194, u195, u196, u197, u198, u199, u200, u201, u202, u203, u204, u205, u206, u207, u208, u209, u210, u211, u212, u213, u214, u215, u216, u217, u218, u219, u220, u221, u222, u223, u224, u225, u226, u227, u228, u229, u230, u231, u232, u233, u234, u235, u236, u237, u238, u239, u240, u241, u242, u243, u244, u245, u246, u247, u248, u249, u250, u251, u252, u253, u254, u255, u256, u257, u258, u259, u260, u261, u262, u263, u264, u265, u266, u267, u268, u269, u270, u271, u272, u273, u274, u275, u276, u277, u278, u279, u280, u281, u282, u283, u284, u285, u286, u287, u288, u289, u290, u291, u292, u293, u294, u295, u296, u297, u298, u299, u300, u301, u302, u303, u304, u305, u306, u307, u308, u309, u310, u311, u312, undef, undef, undef, undef, undef, undef, undef, undef, undef, undef, undef, undef, undef, undef, undef, undef, undef, undef, undef, undef, undef, undef, undef, undef, undef], []⟩ wr) Q0) ⟨#[.int .i64 r, .slice ta ts.length tcap, .slice ao xs.length cap, undef, undef, undef, u6, .int .i64 (R : Int), .pointer (some ⟨w.heap.size, 0, none⟩), u9, .slice ba N bc, .int .i64 k, u12, u13, u14, u15, u16, u17, u18, u19, u20, u21, u22, u23, u24, u25, u26, u27, u28, u29, u30, u31, u32, u33, u34, u35, u36, u37, u38, u39, u40, u41, u42, u43, u44, u45, u46, u47, u48, u49, u50, u51, u52, u53, u54, u55, u56, u57, u58, u59, u60, u61, u62, u63, u64, u65, u66, u67, u68, u69, u70, u71, u72, u73, u74, u75, u76, u77, u78, u79, u80, u81, u82, u83, u84, u85, u86, u87, u88, u89, u90, u91, u92, u93, u94, u95, u96, u97, u98, u99, u100, u101, u102, u103, u104, u105, u106, u107, u108, u109, u110, u111, u112, u113, u114, u115, u116, u117, u118, u119, u120, u121, u122, u123, u124, u125, u126, u127, u128, u129, u130, u131, u132, u133, u134, u135, u136, u137, u138, u139, u140, u141, u142, u143, u144, u145, u146, u147, u148, u149, u150, u151, u152, u153, u154, u155, u156, u157, u158, u159, u160, u161, u162, u163, u164, u165, u166, u167, u168, u169, u170, u171, u172, u173, u174, u175, u176, u177, u178, u179, u180, u181, u182, u183, u184, u185, u186, u187, u188, u189, u190, u191, u192, u193, u194, u195, u196, u197, u198, u199, u200, u201, u202, u203, u204, u205, u206, u207, u208, u209, u210, u211, u212, u213, u214, u215, u216, u217, u218, u219, u220, u221, u222, u223, u224, u225, u226, u227, u228, u229, u230, u231, u232, u233, u234, u235, u236, u237, u238, u239, u240, u241, u242, u243, u244, u245, u246, u247, u248, u249, u250, u251, u252, u253, u254, u255, u256, u257, u258, u259, u260, u261, u262, u263, u264, u265, u266, u267, u268, u269, u270, u271, u272, u273, u274, u275, u276, u277, u278, u279, u280, u281, u282, u283, u284, u285, u286, u287, u288, u289, u290, u291, u292, u293, u294, u295, u296, u297, u298, u299, u300, u301, u302, u303, u304, u305, u306, u307, u308, u309, u310, u311, u312, undef, undef, undef, undef, undef, undef, undef, undef, undef, undef, undef, undef, undef, undef, undef, undef, undef, undef, undef, undef, undef, undef, undef, undef, undef], []⟩ wr := by
  conv => arg 2; whnf
  obtain ⟨b, o, rfl, hok, hrg⟩ := HRo.out k hlt
  obtain ⟨op, hop⟩ : ∃ op, op = xs[k] := ⟨_, rfl⟩
  rw [← hop] at hok hrg hkd
  obtain ⟨kd, oi, oat, om, oa, on, oc, oxs⟩ := op
  simp only at hkd
  subst hkd
  have HOK : Hid _ := hok
  have HRG : Hid _ := rangeAt_below hrg HB.out
  have hk0 : (0 : Int) ≤ (k : Int) := by omega
  have hkI : (k : Int) < (xs.length : Int) := by omega
  have hoi := hok.hi
  simp only at hoi
  obtain ⟨hoi0, hoi1⟩ := hoi
  clear hop hok hrg
  have hNz : ¬ (0 : Int) < (N : Int) := by omega
  have HN0 : Hid (N = 0) := hN0
  clear hN0
  go_upto_region 15 with (refine wpList_load_mid rfl tOp _ rfl b (o + k * 5) rfl (opl ⟨4, oi, oat, om, oa, on, oc, oxs⟩) _ HRG.out Tryd.underlying46 rfl size_op' ?_)
  obtain ⟨w1, hw1⟩ : ∃ w1, w1 = wr.alloc (.cells (opv 4 oa on oc oi oat om) tOp) := ⟨_, rfl⟩
  have hb1 : Below wr.heap.size wr w1 := by rw [hw1]; exact al (Below.refl _ _) _
  have hbx1 : w1.heap[wr.heap.size]? = some (.cells (opv 4 oa on oc oi oat om) tOp (0, 0)) := by rw [hw1]; exact heap_alloc_new wr _
  rw [← hw1]
  have hB1 : w.heap.size ≤ w1.heap.size := Nat.le_trans HB.out.size hb1.size
  have HP1 : Hid _ := HP.out.below hb1
  have HBK1 : Hid _ := HBK.out.below hb1
  have HB1 : Hid (Below w.heap.size w w1) := HB.out.trans (hb1.mono HB.out.size)
  have HX1 : Hid _ := hbx1
  obtain ⟨z0, -, z2, z3, z4⟩ := opcell hbx1
  clear hw1 hb1 hbx1
  go_wp2_with fail
  refine Calls.mono (oDrop HP1.out (fun b hb => hb.elim) hB1 oi) ?_
  rintro e w2 ⟨rfl, hP2, hf2⟩
  have he : plE (Bs.map toD) oi = 4 := by unfold plE; rw [if_neg (by rw [List.length_map, ← HNB.out, HN0.out]; omega)]
  have hL : dropL (Bs.map toD) oi = Bs.map toD := by unfold dropL; rw [if_neg (by rw [List.length_map, ← HNB.out, HN0.out]; omega)]
  rw [he]
  rw [hL] at hP2
  have HP2 : Hid _ := hP2
  have HBK2 : Hid _ := HBK1.out.fr hf2
  have HB2 : Hid _ := HB1.out.trans hf2.bel
  have HL2 : Hid ((Bs.map toD).length = N) := by unfold Hid; rw [List.length_map]; exact HNB.out.symm
  clear he hL hP2 hf2
  go_wp2_with (go_at_call 9; refine Calls.mono (oLen' HP2.out HL2.out) ?_; rintro e w9 ⟨rfl, hq⟩; have hq := hq.symm; subst hq)
  refine ⟨?_, ?_⟩
  · unfold WI
    iterate 305 (apply Exists.intro)
    exact ⟨⟨k + 1, F, Bs, by omega, by go_num, HBK2.out, HP2.out, HB2.out⟩, rfl⟩
  · simp [Wmu, intOf]; omega
set_option maxRecDepth 100000 in
set_option maxHeartbeats 12800000 in
theorem tcase6z (r : Int) (ta : Option Addr) (tcap : Nat) (ts : List Tx) (ao : Option Addr) (cap : Nat) (xs : List OpD) (w : World) (R : Nat) (hRm : R ≤ 1024) (hR0 : 1 ≤ R) (htl : ts.length ≤ 8796093022208) (hl : xs.length ≤ 4398046511103) (HRo : Hid (RdO w ao xs)) (HRt : Hid (RdT w ta ts)) (HTZ : Hid (∀ u, Below w.heap.size w u → TabZ u)) (HTO : Hid (∀ u, Below w.heap.size w u → TabOk u))
    (u6 u9 u12 u13 u14 u15 u16 u17 u18 u19 u20 u21 u22 u23 u24 u25 u26 u27 u28 u29 u30 u31 u32 u33 u34 u35 u36 u37 u38 u39 u40 u41 u42 u43 u44 u45 u46 u47 u48 u49 u50 u51 u52 u53 u54 u55 u56 u57 u58 u59 u60 u61 u62 u63 u64 u65 u66 u67 u68 u69 u70 u71 u72 u73 u74 u75 u76 u77 u78 u79 u80 u81 u82 u83 u84 u85 u86 u87 u88 u89 u90 u91 u92 u93 u94 u95 u96 u97 u98 u99 u100 u101 u102 u103 u104 u105 u106 u107 u108 u109 u110 u111 u112 u113 u114 u115 u116 u117 u118 u119 u120 u121 u122 u123 u124 u125 u126 u127 u128 u129 u130 u131 u132 u133 u134 u135 u136 u137 u138 u139 u140 u141 u142 u143 u144 u145 u146 u147 u148 u149 u150 u151 u152 u153 u154 u155 u156 u157 u158 u159 u160 u161 u162 u163 u164 u165 u166 u167 u168 u169 u170 u171 u172 u173 u174 u175 u176 u177 u178 u179 u180 u181 u182 u183 u184 u185 u186 u187 u188 u189 u190 u191 u192 u193 u194 u195 u196 u197 u198 u199 u200 u201 u202 u203 u204 u205 u206 u207 u208 u209 u210 u211 u212 u213 u214 u215 u216 u217 u218 u219 u220 u221 u222 u223 u224 u225 u226 u227 u228 u229 u230 u231 u232 u233 u234 u235 u236 u237 u238 u239 u240 u241 u242 u243 u244 u245 u246 u247 u248 u249 u250 u251 u252 u253 u254 u255 u256 u257 u258 u259 u260 u261 u262 u263 u264 u265 u266 u267 u268 u269 u270 u271 u272 u273 u274 u275 u276 u277 u278 u279 u280 u281 u282 u283 u284 u285 u286 u287 u288 u289 u290 u291 u292 u293 u294 u295 u296 u297 u298 u299 u300 u301 u302 u303 u304 u305 u306 u307 u308 u309 u310 u311 u312 : Value) (wr : World) (k : Nat) (F : List Sc) (Bs : List Bk) (ba : Option Addr) (N bc : Nat) (hk : k ≤ xs.length) (hNbc : N ≤ bc) (HNB : Hid (N = Bs.length)) (hNR : N ≤ R) (HBK : Hid (Bok wr w.heap.size (.slice ba N bc) F Bs)) (HP : Hid (On SP w.heap.size X0 wr w.heap.size R (Bs.map toD))) (HB : Hid (Below w.heap.size w wr)) (hlt : k < xs.length) (hkd : xs[k].kd = 6) (hN0 : N = 0) (Q0 : Exit → Act → World → Prop) :
    Code.wp Tryd.prog (TB Tryd.f5.body) (Exit.then (fun a' w'' => WI r ta tcap ts ao cap xs w R a' w'' ∧ Wmu xs.length a' w'' < Wmu xs.length ⟨#[.int .i64 r, .slice ta ts.length tcap, .slice ao xs.length cap, undef, undef, undef, u6, .int .i64 (R : Int), .pointer (some ⟨w.heap.size, 0, none⟩), u9, .slice ba N bc, .int .i64 k, u12, u13, u14, u15, u16, u17, u18, u19, u20, u21, u22, u23, u24, u25, u26, u27, u28, u29, u30, u31, u32, u33, u34, u35, u36, u37, u38, u39, u40, u41, u42, u43, u44, u45, u46, u47, u48, u49, u50, u51, u52, u53, u54, u55, u56, u57, u58, u59, u60, u61, u62, u63, u64, u65, u66, u67, u68, u69, u70, u71, u72, u73, u74, u75, u76, u77, u78, u79, u80, u81, u82, u83, u84, u85, u86, u87, u88, u89, u90, u91, u92, u93, u94, u95, u96, u97, u98, u99, u100, u101, u102, u103, u104, u105, u106, u107, u108, u109, u110, u111, u112, u113, u114, u115, u116, u117, u118, u119, u120, u121, u122, u123, u124, u125, u126, u127, u128, u129, u130, u131, u132, u133, u134, u135, u136, u137, u138, u139, u140, u141, u142, u143, u144, u145, u146, u147, u148, u149, u150, u151, u152, u153, u154, u155, u156, u157, u158, u159, u160, u161, u162, u163, u164, u165, u166, u167, u168, u169, u170, u171, u172, u173, u174, u175, u176, u177, u178, u179, u180, u181, u182, u183, u184, u185, u186, u187, u188, u189, u190, u191, u192, u193, u194, u195, u196, u197, u198, u199, u200, u201, u202, u203, u204, u205, u206, u207, u208, u209, u210, u211, u212, u213, u214, u215, u216, u217, u218, u219, u220, u221, u222, u223, u224, u225, u226, u227, u228, u229, u230, u231, u232, u233, u234, u235, u236, u237, u238, u239, u240, u241, u242, u243, u244, u245, u246, u247, u248, u249, u250, u251, u252, u253, u254, u255, u256, u257, u258, u259, u260, u261, u262, u263, u264, u265, u266, u267, u268, u269, u270, u271, u272, u273, u274, u275, u276, u277, u278, u279, u280, u281, u282, u283, u284, u285, u286, u287, u288, u289, u290, u291, u292, u293, u294, u295, u296, u297, u298, u299, u300, u301, u302, u303, u304, u305, u306, u307, u308, u309, u310, u311, u312, undef, undef, undef, undef, undef, undef, undef, undef, undef, undef, undef, undef, undef, undef, undef, undef, undef, undef, undef, undef, undef, undef, undef, undef, undef], []⟩ wr) Q0) ⟨#[.int .i64 r, .slice ta ts.length tcap, .slice ao xs.length cap, undef, undef, undef, u6, .int .i64 (R : Int), .pointer (some ⟨w.heap.size, 0, none⟩), u9, .slice ba N bc, .int .i64 k, u12, u13, u14, u15, u16, u17, u18, u19, u20, u21, u22, u23, u24, u25, u26, u27, u28, u29, u30, u31, u32, u33, u34, u35, u36, u37, u38, u39, u40, u41, u42, u43, u44, u45, u46, u47, u48, u49, u50, u51, u52, u53, u54, u55, u56, u57, u58, u59, u60, u61, u62, u63, u64, u65, u66, u67, u68, u69, u70, u71, u72, u73, u74, u75, u76, u77, u78, u79, u80, u81, u82, u83, u84, u85, u86, u87, u88, u89, u90, u91, u92, u93, u94, u95, u96, u97, u98, u99, u100, u101, u102, u103, u104, u105, u106, u107, u108, u109, u110, u111, u112, u113, u114, u115, u116, u117, u118, u119, u120, u121, u122, u123, u124, u125, u126, u127, u128, u129, u130, u131, u132, u133, u134, u135, u136, u137, u138, u139, u140, u141, u142, u143, u144, u145, u146, u147, u148, u149, u150, u151, u152, u153, u154, u155, u156, u157, u158, u159, u160, u161, u162, u163, u164, u165, u166, u167, u168, u169, u170, u171, u172, u173, u174, u175, u176, u177, u178, u179, u180, u181, u182, u183, u184, u185, u186, u187, u188, u189, u190, u191, u192, u193, u194, u195, u196, u197, u198, u199, u200, u201, u202, u203, u204, u205, u206, u207, u208, u209, u210, u211, u212, u213, u214, u215, u216, u217, u218, u219, u220, u221, u222, u223, u224, u225, u226, u227, u228, u229, u230, u231, u232, u233, u234, u235, u236, u237, u238, u239, u240, u241, u242, u243, u244, u245, u246, u247, u248, u249, u250, u251, u252, u253, u254, u255, u256, u257, u258, u259, u260, u261, u262, u263, u264, u265, u266, u267, u268, u269, u270, u271, u272, u273, u274, u275, u276, u277, u278, u279, u280, u281, u282, u283, u284, u285, u286, u287, u288, u289, u290, u291, u292, u293, u294, u295, u296, u297, u298, u299, u300, u301, u302, u303, u304, u305, u306, u307, u308, u309, u310, u311, u312, undef, undef, undef, undef, undef, undef, undef, undef, undef, undef, undef, undef, undef, undef, undef, undef, undef, undef, undef, undef, undef, undef, undef, undef, undef], []⟩ wr := by
  conv => arg 2; whnf
  obtain ⟨b, o, rfl, hok, hrg⟩ := HRo.out k hlt
  obtain ⟨op, hop⟩ : ∃ op, op = xs[k] := ⟨_, rfl⟩
  rw [← hop] at hok hrg hkd
  obtain ⟨kd, oi, oat, om, oa, on, oc, oxs⟩ := op
  simp only at hkd
  subst hkd
  have HOK : Hid _ := hok
  have HRG : Hid _ := rangeAt_below hrg HB.out
  have hk0 : (0 : Int) ≤ (k : Int) := by omega
  have hkI : (k : Int) < (xs.length : Int) := by omega
  have hoi := hok.hi
  simp only at hoi
  obtain ⟨hoi0, hoi1⟩ := hoi
  clear hop hok hrg
  have hNz : ¬ (0 : Int) < (N : Int) := by omega
  have HN0 : Hid (N = 0) := hN0
  clear hN0
  go_upto_region 15 with (refine wpList_load_mid rfl tOp _ rfl b (o + k * 5) rfl (opl ⟨6, oi, oat, om, oa, on, oc, oxs⟩) _ HRG.out Tryd.underlying46 rfl size_op' ?_)
  obtain ⟨w1, hw1⟩ : ∃ w1, w1 = wr.alloc (.cells (opv 6 oa on oc oi oat om) tOp) := ⟨_, rfl⟩
  have hb1 : Below wr.heap.size wr w1 := by rw [hw1]; exact al (Below.refl _ _) _
  have hbx1 : w1.heap[wr.heap.size]? = some (.cells (opv 6 oa on oc oi oat om) tOp (0, 0)) := by rw [hw1]; exact heap_alloc_new wr _
  rw [← hw1]
  have hB1 : w.heap.size ≤ w1.heap.size := Nat.le_trans HB.out.size hb1.size
  have HP1 : Hid _ := HP.out.below hb1
  have HBK1 : Hid _ := HBK.out.below hb1
  have HB1 : Hid (Below w.heap.size w w1) := HB.out.trans (hb1.mono HB.out.size)
  have HX1 : Hid _ := hbx1
  obtain ⟨z0, -, z2, z3, z4⟩ := opcell hbx1
  clear hw1 hb1 hbx1
  go_wp2_with fail
  refine Calls.mono (oTurn HP1.out (fun b hb => hb.elim) hB1 oi oat om HOK.out.hm HOK.out.ha.1 HOK.out.ha.2 (HTZ.out _ HB1.out)) ?_
  rintro e w2 ⟨rfl, hP2, hf2⟩
  have he : trnE (Bs.map toD) oi oat om = 4 := by unfold trnE; rw [if_neg (by rw [List.length_map, ← HNB.out, HN0.out]; omega)]
  have hL : trnL (Bs.map toD) oi oat om = Bs.map toD := by unfold trnL; rw [if_neg (by rw [List.length_map, ← HNB.out, HN0.out]; omega)]
  rw [he]
  rw [hL] at hP2
  have HP2 : Hid _ := hP2
  have HBK2 : Hid _ := HBK1.out.fr hf2
  have HB2 : Hid _ := HB1.out.trans hf2.bel
  have HL2 : Hid ((Bs.map toD).length = N) := by unfold Hid; rw [List.length_map]; exact HNB.out.symm
  clear he hL hP2 hf2
  go_wp2
  go_quiet (fail)
  have HPd : Hid _ := HP2.out.below (below_drewN _ nq)
  have HBKd : Hid _ := HBK2.out.below (below_drewN _ nq)
  have HBd : Hid _ := HB2.out.trans ((below_drewN w2 nq).mono HB2.out.size)
  go_wp2_with (go_at_call 9; refine Calls.mono (oLen' HPd.out HL2.out) ?_; rintro e w9 ⟨rfl, hq⟩; have hq := hq.symm; subst hq)
  refine ⟨?_, ?_⟩
  · unfold WI
    iterate 305 (apply Exists.intro)
    exact ⟨⟨k + 1, F, Bs, by omega, by go_num, HBKd.out, HPd.out, HBd.out⟩, rfl⟩
  · simp [Wmu, intOf]; omega
set_option maxRecDepth 100000 in
set_option maxHeartbeats 12800000 in
theorem tcase3z (r : Int) (ta : Option Addr) (tcap : Nat) (ts : List Tx) (ao : Option Addr) (cap : Nat) (xs : List OpD) (w : World) (R : Nat) (hRm : R ≤ 1024) (hR0 : 1 ≤ R) (htl : ts.length ≤ 8796093022208) (hl : xs.length ≤ 4398046511103) (HRo : Hid (RdO w ao xs)) (HRt : Hid (RdT w ta ts)) (HTZ : Hid (∀ u, Below w.heap.size w u → TabZ u)) (HTO : Hid (∀ u, Below w.heap.size w u → TabOk u))
    (u6 u9 u12 u13 u14 u15 u16 u17 u18 u19 u20 u21 u22 u23 u24 u25 u26 u27 u28 u29 u30 u31 u32 u33 u34 u35 u36 u37 u38 u39 u40 u41 u42 u43 u44 u45 u46 u47 u48 u49 u50 u51 u52 u53 u54 u55 u56 u57 u58 u59 u60 u61 u62 u63 u64 u65 u66 u67 u68 u69 u70 u71 u72 u73 u74 u75 u76 u77 u78 u79 u80 u81 u82 u83 u84 u85 u86 u87 u88 u89 u90 u91 u92 u93 u94 u95 u96 u97 u98 u99 u100 u101 u102 u103 u104 u105 u106 u107 u108 u109 u110 u111 u112 u113 u114 u115 u116 u117 u118 u119 u120 u121 u122 u123 u124 u125 u126 u127 u128 u129 u130 u131 u132 u133 u134 u135 u136 u137 u138 u139 u140 u141 u142 u143 u144 u145 u146 u147 u148 u149 u150 u151 u152 u153 u154 u155 u156 u157 u158 u159 u160 u161 u162 u163 u164 u165 u166 u167 u168 u169 u170 u171 u172 u173 u174 u175 u176 u177 u178 u179 u180 u181 u182 u183 u184 u185 u186 u187 u188 u189 u190 u191 u192 u193 u194 u195 u196 u197 u198 u199 u200 u201 u202 u203 u204 u205 u206 u207 u208 u209 u210 u211 u212 u213 u214 u215 u216 u217 u218 u219 u220 u221 u222 u223 u224 u225 u226 u227 u228 u229 u230 u231 u232 u233 u234 u235 u236 u237 u238 u239 u240 u241 u242 u243 u244 u245 u246 u247 u248 u249 u250 u251 u252 u253 u254 u255 u256 u257 u258 u259 u260 u261 u262 u263 u264 u265 u266 u267 u268 u269 u270 u271 u272 u273 u274 u275 u276 u277 u278 u279 u280 u281 u282 u283 u284 u285 u286 u287 u288 u289 u290 u291 u292 u293 u294 u295 u296 u297 u298 u299 u300 u301 u302 u303 u304 u305 u306 u307 u308 u309 u310 u311 u312 : Value) (wr : World) (k : Nat) (F : List Sc) (Bs : List Bk) (ba : Option Addr) (N bc : Nat) (hk : k ≤ xs.length) (hNbc : N ≤ bc) (HNB : Hid (N = Bs.length)) (hNR : N ≤ R) (HBK : Hid (Bok wr w.heap.size (.slice ba N bc) F Bs)) (HP : Hid (On SP w.heap.size X0 wr w.heap.size R (Bs.map toD))) (HB : Hid (Below w.heap.size w wr)) (hlt : k < xs.length) (hkd : xs[k].kd = 3) (hN0 : N = 0) (Q0 : Exit → Act → World → Prop) :
    Code.wp Tryd.prog (TB Tryd.f5.body) (Exit.then (fun a' w'' => WI r ta tcap ts ao cap xs w R a' w'' ∧ Wmu xs.length a' w'' < Wmu xs.length ⟨#[.int .i64 r, .slice ta ts.length tcap, .slice ao xs.length cap, undef, undef, undef, u6, .int .i64 (R : Int), .pointer (some ⟨w.heap.size, 0, none⟩), u9, .slice ba N bc, .int .i64 k, u12, u13, u14, u15, u16, u17, u18, u19, u20, u21, u22, u23, u24, u25, u26, u27, u28, u29, u30, u31, u32, u33, u34, u35, u36, u37, u38, u39, u40, u41, u42, u43, u44, u45, u46, u47, u48, u49, u50, u51, u52, u53, u54, u55, u56, u57, u58, u59, u60, u61, u62, u63, u64, u65, u66, u67, u68, u69, u70, u71, u72, u73, u74, u75, u76, u77, u78, u79, u80, u81, u82, u83, u84, u85, u86, u87, u88, u89, u90, u91, u92, u93, u94, u95, u96, u97, u98, u99, u100, u101, u102, u103, u104, u105, u106, u107, u108, u109, u110, u111, u112, u113, u114, u115, u116, u117, u118, u119, u120, u121, u122, u123, u124, u125, u126, u127, u128, u129, u130, u131, u132, u133, u134, u135, u136, u137, u138, u139, u140, u141, u142, u143, u144, u145, u146, u147, u148, u149, u150, u151, u152, u153, u154, u155, u156, u157, u158, u159, u160, u161, u162, u163, u164, u165, u166, u167, u168, u169, u170, u171, u172, u173, u174, u175, u176, u177, u178, u179, u180, u181, u182, u183, u184, u185, u186, u187, u188, u189, u190, u191, u192, u193, u194, u195, u196, u197, u198, u199, u200, u201, u202, u203, u204, u205, u206, u207, u208, u209, u210, u211, u212, u213, u214, u215, u216, u217, u218, u219, u220, u221, u222, u223, u224, u225, u226, u227, u228, u229, u230, u231, u232, u233, u234, u235, u236, u237, u238, u239, u240, u241, u242, u243, u244, u245, u246, u247, u248, u249, u250, u251, u252, u253, u254, u255, u256, u257, u258, u259, u260, u261, u262, u263, u264, u265, u266, u267, u268, u269, u270, u271, u272, u273, u274, u275, u276, u277, u278, u279, u280, u281, u282, u283, u284, u285, u286, u287, u288, u289, u290, u291, u292, u293, u294, u295, u296, u297, u298, u299, u300, u301, u302, u303, u304, u305, u306, u307, u308, u309, u310, u311, u312, undef, undef, undef, undef, undef, undef, undef, undef, undef, undef, undef, undef, undef, undef, undef, undef, undef, undef, undef, undef, undef, undef, undef, undef, undef], []⟩ wr) Q0) ⟨#[.int .i64 r, .slice ta ts.length tcap, .slice ao xs.length cap, undef, undef, undef, u6, .int .i64 (R : Int), .pointer (some ⟨w.heap.size, 0, none⟩), u9, .slice ba N bc, .int .i64 k, u12, u13, u14, u15, u16, u17, u18, u19, u20, u21, u22, u23, u24, u25, u26, u27, u28, u29, u30, u31, u32, u33, u34, u35, u36, u37, u38, u39, u40, u41, u42, u43, u44, u45, u46, u47, u48, u49, u50, u51, u52, u53, u54, u55, u56, u57, u58, u59, u60, u61, u62, u63, u64, u65, u66, u67, u68, u69, u70, u71, u72, u73, u74, u75, u76, u77, u78, u79, u80, u81, u82, u83, u84, u85, u86, u87, u88, u89, u90, u91, u92, u93, u94, u95, u96, u97, u98, u99, u100, u101, u102, u103, u104, u105, u106, u107, u108, u109, u110, u111, u112, u113, u114, u115, u116, u117, u118, u119, u120, u121, u122, u123, u124, u125, u126, u127, u128, u129, u130, u131, u132, u133, u134, u135, u136, u137, u138, u139, u140, u141, u142, u143, u144, u145, u146, u147, u148, u149, u150, u151, u152, u153, u154, u155, u156, u157, u158, u159, u160, u161, u162, u163, u164, u165, u166, u167, u168, u169, u170, u171, u172, u173, u174, u175, u176, u177, u178, u179, u180, u181, u182, u183, u184, u185, u186, u187, u188, u189, u190, u191, u192, u193, u194, u195, u196, u197, u198, u199, u200, u201, u202, u203, u204, u205, u206, u207, u208, u209, u210, u211, u212, u213, u214, u215, u216, u217, u218, u219, u220, u221, u222, u223, u224, u225, u226, u227, u228, u229, u230, u231, u232, u233, u234, u235, u236, u237, u238, u239, u240, u241, u242, u243, u244, u245, u246, u247, u248, u249, u250, u251, u252, u253, u254, u255, u256, u257, u258, u259, u260, u261, u262, u263, u264, u265, u266, u267, u268, u269, u270, u271, u272, u273, u274, u275, u276, u277, u278, u279, u280, u281, u282, u283, u284, u285, u286, u287, u288, u289, u290, u291, u292, u293, u294, u295, u296, u297, u298, u299, u300, u301, u302, u303, u304, u305, u306, u307, u308, u309, u310, u311, u312, undef, undef, undef, undef, undef, undef, undef, undef, undef, undef, undef, undef, undef, undef, undef, undef, undef, undef, undef, undef, undef, undef, undef, undef, undef], []⟩ wr := by
  conv => arg 2; whnf
  obtain ⟨b, o, rfl, hok, hrg⟩ := HRo.out k hlt
  obtain ⟨op, hop⟩ : ∃ op, op = xs[k] := ⟨_, rfl⟩
  rw [← hop] at hok hrg hkd
  obtain ⟨kd, oi, oat, om, oa, on, oc, oxs⟩ := op
  simp only at hkd
  subst hkd
  have HOK : Hid _ := hok
  have HRG : Hid _ := rangeAt_below hrg HB.out
  have hk0 : (0 : Int) ≤ (k : Int) := by omega
  have hkI : (k : Int) < (xs.length : Int) := by omega
  have hoi := hok.hi
  simp only at hoi
  obtain ⟨hoi0, hoi1⟩ := hoi
  clear hop hok hrg
  have hNz : ¬ (0 : Int) < (N : Int) := by omega
  have HN0 : Hid (N = 0) := hN0
  clear hN0
  go_upto_region 15 with (refine wpList_load_mid rfl tOp _ rfl b (o + k * 5) rfl (opl ⟨3, oi, oat, om, oa, on, oc, oxs⟩) _ HRG.out Tryd.underlying46 rfl size_op' ?_)
  obtain ⟨w1, hw1⟩ : ∃ w1, w1 = wr.alloc (.cells (opv 3 oa on oc oi oat om) tOp) := ⟨_, rfl⟩
  have hb1 : Below wr.heap.size wr w1 := by rw [hw1]; exact al (Below.refl _ _) _
  have hbx1 : w1.heap[wr.heap.size]? = some (.cells (opv 3 oa on oc oi oat om) tOp (0, 0)) := by rw [hw1]; exact heap_alloc_new wr _
  rw [← hw1]
  have hB1 : w.heap.size ≤ w1.heap.size := Nat.le_trans HB.out.size hb1.size
  have HP1 : Hid _ := HP.out.below hb1
  have HBK1 : Hid _ := HBK.out.below hb1
  have HB1 : Hid (Below w.heap.size w w1) := HB.out.trans (hb1.mono HB.out.size)
  have HX1 : Hid _ := hbx1
  obtain ⟨z0, -, z2, z3, z4⟩ := opcell hbx1
  clear hw1 hb1 hbx1
  go_wp2_with fail
  refine Calls.mono (oTake HP1.out (fun b hb => hb.elim) hB1 oi) ?_
  rintro e w2 ⟨⟨u1, rfl, -⟩, hP2, hf2⟩
  have he : plE (Bs.map toD) oi = 4 := by unfold plE; rw [if_neg (by rw [List.length_map, ← HNB.out, HN0.out]; omega)]
  have hL : dropL (Bs.map toD) oi = Bs.map toD := by unfold dropL; rw [if_neg (by rw [List.length_map, ← HNB.out, HN0.out]; omega)]
  rw [he]
  rw [hL] at hP2
  have HP2 : Hid _ := hP2
  have HBK2 : Hid _ := HBK1.out.fr hf2
  have HB2 : Hid _ := HB1.out.trans hf2.bel
  have HL2 : Hid ((Bs.map toD).length = N) := by unfold Hid; rw [List.length_map]; exact HNB.out.symm
  clear he hL hP2 hf2
  go_wp2_with (go_at_call 9; refine Calls.mono (oLen' HP2.out HL2.out) ?_; rintro e w9 ⟨rfl, hq⟩; have hq := hq.symm; subst hq)
  refine ⟨?_, ?_⟩
  · unfold WI
    iterate 305 (apply Exists.intro)
    exact ⟨⟨k + 1, F, Bs, by omega, by go_num, HBK2.out, HP2.out, HB2.out⟩, rfl⟩
  · simp [Wmu, intOf]; omega
set_option maxRecDepth 100000 in
set_option maxHeartbeats 12800000 in
theorem tcase0z (r : Int) (ta : Option Addr) (tcap : Nat) (ts : List Tx) (ao : Option Addr) (cap : Nat) (xs : List OpD) (w : World) (R : Nat) (hRm : R ≤ 1024) (hR0 : 1 ≤ R) (htl : ts.length ≤ 8796093022208) (hl : xs.length ≤ 4398046511103) (HRo : Hid (RdO w ao xs)) (HRt : Hid (RdT w ta ts)) (HTZ : Hid (∀ u, Below w.heap.size w u → TabZ u)) (HTO : Hid (∀ u, Below w.heap.size w u → TabOk u))
    (u6 u9 u12 u13 u14 u15 u16 u17 u18 u19 u20 u21 u22 u23 u24 u25 u26 u27 u28 u29 u30 u31 u32 u33 u34 u35 u36 u37 u38 u39 u40 u41 u42 u43 u44 u45 u46 u47 u48 u49 u50 u51 u52 u53 u54 u55 u56 u57 u58 u59 u60 u61 u62 u63 u64 u65 u66 u67 u68 u69 u70 u71 u72 u73 u74 u75 u76 u77 u78 u79 u80 u81 u82 u83 u84 u85 u86 u87 u88 u89 u90 u91 u92 u93 u94 u95 u96 u97 u98 u99 u100 u101 u102 u103 u104 u105 u106 u107 u108 u109 u110 u111 u112 u113 u114 u115 u116 u117 u118 u119 u120 u121 u122 u123 u124 u125 u126 u127 u128 u129 u130 u131 u132 u133 u134 u135 u136 u137 u138 u139 u140 u141 u142 u143 u144 u145 u146 u147 u148 u149 u150 u151 u152 u153 u154 u155 u156 u157 u158 u159 u160 u161 u162 u163 u164 u165 u166 u167 u168 u169 u170 u171 u172 u173 u174 u175 u176 u177 u178 u179 u180 u181 u182 u183 u184 u185 u186 u187 u188 u189 u190 u191 u192 u193 u194 u195 u196 u197 u198 u199 u200 u201 u202 u203 u204 u205 u206 u207 u208 u209 u210 u211 u212 u213 u214 u215 u216 u217 u218 u219 u220 u221 u222 u223 u224 u225 u226 u227 u228 u229 u230 u231 u232 u233 u234 u235 u236 u237 u238 u239 u240 u241 u242 u243 u244 u245 u246 u247 u248 u249 u250 u251 u252 u253 u254 u255 u256 u257 u258 u259 u260 u261 u262 u263 u264 u265 u266 u267 u268 u269 u270 u271 u272 u273 u274 u275 u276 u277 u278 u279 u280 u281 u282 u283 u284 u285 u286 u287 u288 u289 u290 u291 u292 u293 u294 u295 u296 u297 u298 u299 u300 u301 u302 u303 u304 u305 u306 u307 u308 u309 u310 u311 u312 : Value) (wr : World) (k : Nat) (F : List Sc) (Bs : List Bk) (ba : Option Addr) (N bc : Nat) (hk : k ≤ xs.length) (hNbc : N ≤ bc) (HNB : Hid (N = Bs.length)) (hNR : N ≤ R) (HBK : Hid (Bok wr w.heap.size (.slice ba N bc) F Bs)) (HP : Hid (On SP w.heap.size X0 wr w.heap.size R (Bs.map toD))) (HB : Hid (Below w.heap.size w wr)) (hlt : k < xs.length) (hkd : ¬ xs[k].kd = 1 ∧ ¬ xs[k].kd = 5 ∧ ¬ xs[k].kd = 4 ∧ ¬ xs[k].kd = 6 ∧ ¬ xs[k].kd = 3) (hN0 : N = 0) (Q0 : Exit → Act → World → Prop) :
    Code.wp Tryd.prog (TB Tryd.f5.body) (Exit.then (fun a' w'' => WI r ta tcap ts ao cap xs w R a' w'' ∧ Wmu xs.length a' w'' < Wmu xs.length ⟨#[.int .i64 r, .slice ta ts.length tcap, .slice ao xs.length cap, undef, undef, undef, u6, .int .i64 (R : Int), .pointer (some ⟨w.heap.size, 0, none⟩), u9, .slice ba N bc, .int .i64 k, u12, u13, u14, u15, u16, u17, u18, u19, u20, u21, u22, u23, u24, u25, u26, u27, u28, u29, u30, u31, u32, u33, u34, u35, u36, u37, u38, u39, u40, u41, u42, u43, u44, u45, u46, u47, u48, u49, u50, u51, u52, u53, u54, u55, u56, u57, u58, u59, u60, u61, u62, u63, u64, u65, u66, u67, u68, u69, u70, u71, u72, u73, u74, u75, u76, u77, u78, u79, u80, u81, u82, u83, u84, u85, u86, u87, u88, u89, u90, u91, u92, u93, u94, u95, u96, u97, u98, u99, u100, u101, u102, u103, u104, u105, u106, u107, u108, u109, u110, u111, u112, u113, u114, u115, u116, u117, u118, u119, u120, u121, u122, u123, u124, u125, u126, u127, u128, u129, u130, u131, u132, u133, u134, u135, u136, u137, u138, u139, u140, u141, u142, u143, u144, u145, u146, u147, u148, u149, u150, u151, u152, u153, u154, u155, u156, u157, u158, u159, u160, u161, u162, u163, u164, u165, u166, u167, u168, u169, u170, u171, u172, u173, u174, u175, u176, u177, u178, u179, u180, u181, u182, u183, u184, u185, u186, u187, u188, u189, u190, u191, u192, u193, u194, u195, u196, u197, u198, u199, u200, u201, u202, u203, u204, u205, u206, u207, u208, u209, u210, u211, u212, u213, u214, u215, u216, u217, u218, u219, u220, u221, u222, u223, u224, u225, u226, u227, u228, u229, u230, u231, u232, u233, u234, u235, u236, u237, u238, u239, u240, u241, u242, u243, u244, u245, u246, u247, u248, u249, u250, u251, u252, u253, u254, u255, u256, u257, u258, u259, u260, u261, u262, u263, u264, u265, u266, u267, u268, u269, u270, u271, u272, u273, u274, u275, u276, u277, u278, u279, u280, u281, u282, u283, u284, u285, u286, u287, u288, u289, u290, u291, u292, u293, u294, u295, u296, u297, u298, u299, u300, u301, u302, u303, u304, u305, u306, u307, u308, u309, u310, u311, u312, undef, undef, undef, undef, undef, undef, undef, undef, undef, undef, undef, undef, undef, undef, undef, undef, undef, undef, undef, undef, undef, undef, undef, undef, undef], []⟩ wr) Q0) ⟨#[.int .i64 r, .slice ta ts.length tcap, .slice ao xs.length cap, undef, undef, undef, u6, .int .i64 (R : Int), .pointer (some ⟨w.heap.size, 0, none⟩), u9, .slice ba N bc, .int .i64 k, u12, u13, u14, u15, u16, u17, u18, u19, u20, u21, u22, u23, u24, u25, u26, u27, u28, u29, u30, u31, u32, u33, u34, u35, u36, u37, u38, u39, u40, u41, u42, u43, u44, u45, u46, u47, u48, u49, u50, u51, u52, u53, u54, u55, u56, u57, u58, u59, u60, u61, u62, u63, u64, u65, u66, u67, u68, u69, u70, u71, u72, u73, u74, u75, u76, u77, u78, u79, u80, u81, u82, u83, u84, u85, u86, u87, u88, u89, u90, u91, u92, u93, u94, u95, u96, u97, u98, u99, u100, u101, u102, u103, u104, u105, u106, u107, u108, u109, u110, u111, u112, u113, u114, u115, u116, u117, u118, u119, u120, u121, u122, u123, u124, u125, u126, u127, u128, u129, u130, u131, u132, u133, u134, u135, u136, u137, u138, u139, u140, u141, u142, u143, u144, u145, u146, u147, u148, u149, u150, u151, u152, u153, u154, u155, u156, u157, u158, u159, u160, u161, u162, u163, u164, u165, u166, u167, u168, u169, u170, u171, u172, u173, u174, u175, u176, u177, u178, u179, u180, u181, u182, u183, u184, u185, u186, u187, u188, u189, u190, u191, u192, u193, u194, u195, u196, u197, u198, u199, u200, u201, u202, u203, u204, u205, u206, u207, u208, u209, u210, u211, u212, u213, u214, u215, u216, u217, u218, u219, u220, u221, u222, u223, u224, u225, u226, u227, u228, u229, u230, u231, u232, u233, u234, u235, u236, u237, u238, u239, u240, u241, u242, u243, u244, u245, u246, u247, u248, u249, u250, u251, u252, u253, u254, u255, u256, u257, u258, u259, u260, u261, u262, u263, u264, u265, u266, u267, u268, u269, u270, u271, u272, u273, u274, u275, u276, u277, u278, u279, u280, u281, u282, u283, u284, u285, u286, u287, u288, u289, u290, u291, u292, u293, u294, u295, u296, u297, u298, u299, u300, u301, u302, u303, u304, u305, u306, u307, u308, u309, u310, u311, u312, undef, undef, undef, undef, undef, undef, undef, undef, undef, undef, undef, undef, undef, undef, undef, undef, undef, undef, undef, undef, undef, undef, undef, undef, undef], []⟩ wr := by
  conv => arg 2; whnf
  obtain ⟨b, o, rfl, hok, hrg⟩ := HRo.out k hlt
  obtain ⟨op, hop⟩ : ∃ op, op = xs[k] := ⟨_, rfl⟩
  rw [← hop] at hok hrg hkd
  obtain ⟨kd, oi, oat, om, oa, on, oc, oxs⟩ := op
  simp only at hkd
  have HOK : Hid _ := hok
  have HRG : Hid _ := rangeAt_below hrg HB.out
  have hk0 : (0 : Int) ≤ (k : Int) := by omega
  have hkI : (k : Int) < (xs.length : Int) := by omega
  have hoi := hok.hi
  simp only at hoi
  obtain ⟨hoi0, hoi1⟩ := hoi
  clear hop hok hrg
  have hkd1 := hkd.1
  have hkd5 := hkd.2.1
  have hkd4 := hkd.2.2.1
  have hkd6 := hkd.2.2.2.1
  have hkd3 := hkd.2.2.2.2
  clear hkd
  have hNz : ¬ (0 : Int) < (N : Int) := by omega
  have HN0 : Hid (N = 0) := hN0
  clear hN0
  go_upto_region 15 with (refine wpList_load_mid rfl tOp _ rfl b (o + k * 5) rfl (opl ⟨kd, oi, oat, om, oa, on, oc, oxs⟩) _ HRG.out Tryd.underlying46 rfl size_op' ?_)
  obtain ⟨w1, hw1⟩ : ∃ w1, w1 = wr.alloc (.cells (opv kd oa on oc oi oat om) tOp) := ⟨_, rfl⟩
  have hb1 : Below wr.heap.size wr w1 := by rw [hw1]; exact al (Below.refl _ _) _
  have hbx1 : w1.heap[wr.heap.size]? = some (.cells (opv kd oa on oc oi oat om) tOp (0, 0)) := by rw [hw1]; exact heap_alloc_new wr _
  rw [← hw1]
  have hB1 : w.heap.size ≤ w1.heap.size := Nat.le_trans HB.out.size hb1.size
  have HP1 : Hid _ := HP.out.below hb1
  have HBK1 : Hid _ := HBK.out.below hb1
  have HB1 : Hid (Below w.heap.size w w1) := HB.out.trans (hb1.mono HB.out.size)
  have HX1 : Hid _ := hbx1
  obtain ⟨z0, -, z2, z3, z4⟩ := opcell hbx1
  clear hw1 hb1 hbx1
  have e1 : (kd == 1) = false := by simpa using hkd1
  have e5 : (kd == 5) = false := by simpa using hkd5
  have e4 : (kd == 4) = false := by simpa using hkd4
  have e6 : (kd == 6) = false := by simpa using hkd6
  have e3 : (kd == 3) = false := by simpa using hkd3
  have HL1 : Hid ((Bs.map toD).length = N) := by unfold Hid; rw [List.length_map]; exact HNB.out.symm
  have hNR9 : ¬ (R : Int) < (N : Int) := by omega
  focus
    go_wp2_with (go_at_call 9; refine Calls.mono (oLen' HP1.out HL1.out) ?_; rintro e w9 ⟨rfl, hq⟩; have hq := hq.symm; subst hq)
    refine ⟨?_, ?_⟩
    · unfold WI
      iterate 305 (apply Exists.intro)
      exact ⟨⟨k + 1, F, Bs, by omega, by go_num, HBK1.out, HP1.out, HB1.out⟩, rfl⟩
    · simp [Wmu, intOf]; omega
set_option maxRecDepth 100000 in
set_option maxHeartbeats 12800000 in
theorem tcaseE (r : Int) (ta : Option Addr) (tcap : Nat) (ts : List Tx) (ao : Option Addr) (cap : Nat) (xs : List OpD) (w : World) (R : Nat) (hRm : R ≤ 1024) (hR0 : 1 ≤ R) (htl : ts.length ≤ 8796093022208) (hl : xs.length ≤ 4398046511103) (HRo : Hid (RdO w ao xs)) (HRt : Hid (RdT w ta ts)) (HTZ : Hid (∀ u, Below w.heap.size w u → TabZ u)) (HTO : Hid (∀ u, Below w.heap.size w u → TabOk u))
    (u6 u9 u12 u13 u14 u15 u16 u17 u18 u19 u20 u21 u22 u23 u24 u25 u26 u27 u28 u29 u30 u31 u32 u33 u34 u35 u36 u37 u38 u39 u40 u41 u42 u43 u44 u45 u46 u47 u48 u49 u50 u51 u52 u53 u54 u55 u56 u57 u58 u59 u60 u61 u62 u63 u64 u65 u66 u67 u68 u69 u70 u71 u72 u73 u74 u75 u76 u77 u78 u79 u80 u81 u82 u83 u84 u85 u86 u87 u88 u89 u90 u91 u92 u93 u94 u95 u96 u97 u98 u99 u100 u101 u102 u103 u104 u105 u106 u107 u108 u109 u110 u111 u112 u113 u114 u115 u116 u117 u118 u119 u120 u121 u122 u123 u124 u125 u126 u127 u128 u129 u130 u131 u132 u133 u134 u135 u136 u137 u138 u139 u140 u141 u142 u143 u144 u145 u146 u147 u148 u149 u150 u151 u152 u153 u154 u155 u156 u157 u158 u159 u160 u161 u162 u163 u164 u165 u166 u167 u168 u169 u170 u171 u172 u173 u174 u175 u176 u177 u178 u179 u180 u181 u182 u183 u184 u185 u186 u187 u188 u189 u190 u191 u192 u193 u194 u195 u196 u197 u198 u199 u200 u201 u202 u203 u204 u205 u206 u207 u208 u209 u210 u211 u212 u213 u214 u215 u216 u217 u218 u219 u220 u221 u222 u223 u224 u225 u226 u227 u228 u229 u230 u231 u232 u233 u234 u235 u236 u237 u238 u239 u240 u241 u242 u243 u244 u245 u246 u247 u248 u249 u250 u251 u252 u253 u254 u255 u256 u257 u258 u259 u260 u261 u262 u263 u264 u265 u266 u267 u268 u269 u270 u271 u272 u273 u274 u275 u276 u277 u278 u279 u280 u281 u282 u283 u284 u285 u286 u287 u288 u289 u290 u291 u292 u293 u294 u295 u296 u297 u298 u299 u300 u301 u302 u303 u304 u305 u306 u307 u308 u309 u310 u311 u312 : Value) (wr : World) (k : Nat) (F : List Sc) (Bs : List Bk) (ba : Option Addr) (N bc : Nat) (hk : k ≤ xs.length) (HBK : Hid (Bok wr w.heap.size (.slice ba N bc) F Bs)) (HP : Hid (On SP w.heap.size X0 wr w.heap.size R (Bs.map toD))) (HB : Hid (Below w.heap.size w wr)) (hlt : ¬ k < xs.length) (Q0 : Exit → Act → World → Prop) (hexit : ∀ a' w'', WI r ta tcap ts ao cap xs w R a' w'' → Q0 (.exit 0) a' w'') :
    Code.wp Tryd.prog (TB Tryd.f5.body) (Exit.then (fun a' w'' => WI r ta tcap ts ao cap xs w R a' w'' ∧ Wmu xs.length a' w'' < Wmu xs.length ⟨#[.int .i64 r, .slice ta ts.length tcap, .slice ao xs.length cap, undef, undef, undef, u6, .int .i64 (R : Int), .pointer (some ⟨w.heap.size, 0, none⟩), u9, .slice ba N bc, .int .i64 k, u12, u13, u14, u15, u16, u17, u18, u19, u20, u21, u22, u23, u24, u25, u26, u27, u28, u29, u30, u31, u32, u33, u34, u35, u36, u37, u38, u39, u40, u41, u42, u43, u44, u45, u46, u47, u48, u49, u50, u51, u52, u53, u54, u55, u56, u57, u58, u59, u60, u61, u62, u63, u64, u65, u66, u67, u68, u69, u70, u71, u72, u73, u74, u75, u76, u77, u78, u79, u80, u81, u82, u83, u84, u85, u86, u87, u88, u89, u90, u91, u92, u93, u94, u95, u96, u97, u98, u99, u100, u101, u102, u103, u104, u105, u106, u107, u108, u109, u110, u111, u112, u113, u114, u115, u116, u117, u118, u119, u120, u121, u122, u123, u124, u125, u126, u127, u128, u129, u130, u131, u132, u133, u134, u135, u136, u137, u138, u139, u140, u141, u142, u143, u144, u145, u146, u147, u148, u149, u150, u151, u152, u153, u154, u155, u156, u157, u158, u159, u160, u161, u162, u163, u164, u165, u166, u167, u168, u169, u170, u171, u172, u173, u174, u175, u176, u177, u178, u179, u180, u181, u182, u183, u184, u185, u186, u187, u188, u189, u190, u191, u192, u193, u194, u195, u196, u197, u198, u199, u200, u201, u202, u203, u204, u205, u206, u207, u208, u209, u210, u211, u212, u213, u214, u215, u216, u217, u218, u219, u220, u221, u222, u223, u224, u225, u226, u227, u228, u229, u230, u231, u232, u233, u234, u235, u236, u237, u238, u239, u240, u241, u242, u243, u244, u245, u246, u247, u248, u249, u250, u251, u252, u253, u254, u255, u256, u257, u258, u259, u260, u261, u262, u263, u264, u265, u266, u267, u268, u269, u270, u271, u272, u273, u274, u275, u276, u277, u278, u279, u280, u281, u282, u283, u284, u285, u286, u287, u288, u289, u290, u291, u292, u293, u294, u295, u296, u297, u298, u299, u300, u301, u302, u303, u304, u305, u306, u307, u308, u309, u310, u311, u312, undef, undef, undef, undef, undef, undef, undef, undef, undef, undef, undef, undef, undef, undef, undef, undef, undef, undef, undef, undef, undef, undef, undef, undef, undef], []⟩ wr) Q0) ⟨#[.int .i64 r, .slice ta ts.length tcap, .slice ao xs.length cap, undef, undef, undef, u6, .int .i64 (R : Int), .pointer (some ⟨w.heap.size, 0, none⟩), u9, .slice ba N bc, .int .i64 k, u12, u13, u14, u15, u16, u17, u18, u19, u20, u21, u22, u23, u24, u25, u26, u27, u28, u29, u30, u31, u32, u33, u34, u35, u36, u37, u38, u39, u40, u41, u42, u43, u44, u45, u46, u47, u48, u49, u50, u51, u52, u53, u54, u55, u56, u57, u58, u59, u60, u61, u62, u63, u64, u65, u66, u67, u68, u69, u70, u71, u72, u73, u74, u75, u76, u77, u78, u79, u80, u81, u82, u83, u84, u85, u86, u87, u88, u89, u90, u91, u92, u93, u94, u95, u96, u97, u98, u99, u100, u101, u102, u103, u104, u105, u106, u107, u108, u109, u110, u111, u112, u113, u114, u115, u116, u117, u118, u119, u120, u121, u122, u123, u124, u125, u126, u127, u128, u129, u130, u131, u132, u133, u134, u135, u136, u137, u138, u139, u140, u141, u142, u143, u144, u145, u146, u147, u148, u149, u150, u151, u152, u153, u154, u155, u156, u157, u158, u159, u160, u161, u162, u163, u164, u165, u166, u167, u168, u169, u170, u171, u172, u173, u174, u175, u176, u177, u178, u179, u180, u181, u182, u183, u184, u185, u186, u187, u188, u189, u190, u191, u192, u193, u194, u195, u196, u197, u198, u199, u200, u201, u202, u203, u204, u205, u206, u207, u208, u209, u210, u211, u212, u213, u214, u215, u216, u217, u218, u219, u220, u221, u222, u223, u224, u225, u226, u227, u228, u229, u230, u231, u232, u233, u234, u235, u236, u237, u238, u239, u240, u241, u242, u243, u244, u245, u246, u247, u248, u249, u250, u251, u252, u253, u254, u255, u256, u257, u258, u259, u260, u261, u262, u263, u264, u265, u266, u267, u268, u269, u270, u271, u272, u273, u274, u275, u276, u277, u278, u279, u280, u281, u282, u283, u284, u285, u286, u287, u288, u289, u290, u291, u292, u293, u294, u295, u296, u297, u298, u299, u300, u301, u302, u303, u304, u305, u306, u307, u308, u309, u310, u311, u312, undef, undef, undef, undef, undef, undef, undef, undef, undef, undef, undef, undef, undef, undef, undef, undef, undef, undef, undef, undef, undef, undef, undef, undef, undef], []⟩ wr := by
  conv => arg 2; whnf
  have hkI : ¬ (k : Int) < (xs.length : Int) := by omega
  go_wp2
  first | (refine hexit _ _ ?_) | skip
  unfold WI
  iterate 305 (apply Exists.intro)
  exact ⟨⟨k, F, Bs, hk, rfl, HBK.out, HP.out, HB.out⟩, rfl⟩
end Go.Proofs.YtnpcgegcoakbmaaDoor
