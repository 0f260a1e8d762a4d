import Derived.Test.YtiedgcanndgmoaaGreatDoorOC4i
namespace Go.Proofs.YtiedgcanndgmoaaGreatDoor
set_option linter.unusedVariables false
set_option linter.unusedSimpArgs false
open Go.RowKit Go.Maps
set_option maxRecDepth 100000 in
set_option maxHeartbeats 12800000 in
theorem ocase1n1 (w1 : World) (ao : Option Addr) (cap : Nat) (xs : List Oe) (P0 p ms mn pw mw q M A EP : Nat) (hM : 16 ≤ M ∧ M ≤ 1024) (hAk : A ≤ 4096) (hEP : 1 ≤ EP ∧ EP ≤ 281474976710655) (hl : xs.length ≤ 4398046511103) (HR : Hid (RdOe w1 ao xs)) (HC : Hid (w1.heap[P0]? = some (.cells #[.int .i64 (M : Int), .int .u64 (A : Int), .int .u64 1, .int .i64 0, .int .i64 1, .int .i64 1] 25 (0, 0))))
    (u0 u1 u3 u10 u13 u16 u17 u18 u19 u20 u21 u22 u23 u24 u25 u26 u27 u28 u29 u30 u31 u32 u33 u34 u35 u36 u37 u38 u39 u40 u41 u42 u43 u44 u45 u46 u47 u48 u49 u50 u51 u52 u53 u54 u55 u56 u57 u58 u59 u60 u61 u62 u63 u64 u65 u66 u67 u68 u69 u70 u71 u72 u73 u74 u75 u76 u77 u78 u79 u80 u81 u82 u83 u84 u85 u86 u87 u88 u89 u90 u91 u92 u93 u94 u95 u96 u97 u98 u99 u100 u101 u102 u103 u104 u105 u106 u107 u108 u109 u110 u111 u112 u113 u114 u115 u116 u117 u118 u119 u120 u121 u122 u123 u124 u125 u126 u127 u128 u129 u130 u131 u132 u133 u134 u135 u136 u137 u138 u139 u140 u141 u142 u143 u144 u145 u146 u147 u148 u149 u150 u151 u152 u153 u154 u155 u156 u157 u158 u159 u160 u161 u162 u163 u164 u165 u166 u167 u168 u169 u170 u171 u172 u173 u174 u175 u176 u177 u178 u179 u180 u181 u182 u183 u184 u185 u186 u187 u188 u189 u190 u191 u192 u193 u194 u195 u196 u197 u198 u199 u200 u201 u202 u203 u204 u205 u206 u207 u208 u209 u210 u211 u212 u213 u214 u215 u216 u217 u218 u219 u220 u221 u222 u223 u224 u225 u226 u227 u228 u229 u230 u231 u232 u233 u234 u235 u236 u237 u238 u239 u240 u241 u242 u243 u244 u245 u246 u247 u248 u249 u250 u251 u252 u253 u254 u255 u256 u257 u258 u259 u260 u261 u262 u263 u264 u265 u266 u267 u268 u269 u270 u271 u272 u273 u274 u275 u276 u277 u278 u279 u280 u281 u282 u283 u284 u285 u286 u287 u288 u289 u290 u291 u292 u293 u294 u295 u296 u297 u298 u299 u300 u301 u302 u303 u304 u305 u306 u307 u308 u309 u310 u311 u312 u313 u314 u315 u316 u317 u318 u319 u320 u321 u322 u323 u324 u325 u326 u327 u328 u329 u330 u331 u332 u333 u334 u335 u336 u337 u338 u339 u340 u341 u342 u343 u344 u345 u346 u347 u348 u349 u350 u351 u352 u353 u354 u355 u356 u357 u358 u359 u360 u361 u362 u363 u364 u365 u366 u367 u368 u369 u370 u371 u372 u373 u374 : Value) (wr : World) (k : Nat) (V : Nat → Nat → Value) (v : Value) (s : Xs) (hk : k ≤ xs.length) (HSB : Hid (s.beg ≤ k)) (HSC : Hid (s.mtu = M ∧ s.ack = A ∧ s.ep = EP)) (HE : Hid (Exb wr (fun b => b < w1.heap.size) p ms mn pw mw V q v s s)) (HB : Hid (Below w1.heap.size w1 wr)) (hlt0 : 0 < w1.heap.size) (hlt : k < xs.length) (hkd : xs[k].kd = 1) (hn1 : 281474976710655 < xs[k].n) (Q0 : Exit → Act → World → Prop) :
    Code.wp Tryz.prog (TBx Tryz.f3.body) (Exit.then (fun a' w'' => WIx w1 ao cap xs P0 p ms mn pw mw q M A EP a' w'' ∧ Wmux xs.length a' w'' < Wmux xs.length ⟨#[u0, u1, .int .u64 (EP : Int), u3, .slice ao xs.length cap, undef, undef, undef, undef, undef, u10, .pointer (some ⟨P0, 0, none⟩), .pointer (some ⟨p, 0, none⟩), u13, .pointer (some ⟨q, 0, none⟩), .int .i64 k, u16, u17, u18, u19, u20, u21, u22, u23, u24, u25, u26, u27, u28, u29, u30, u31, u32, u33, u34, u35, u36, u37, u38, u39, u40, u41, u42, u43, u44, u45, u46, u47, u48, u49, u50, u51, u52, u53, u54, u55, u56, u57, u58, u59, u60, u61, u62, u63, u64, u65, u66, u67, u68, u69, u70, u71, u72, u73, u74, u75, u76, u77, u78, u79, u80, u81, u82, u83, u84, u85, u86, u87, u88, u89, u90, u91, u92, u93, u94, u95, u96, u97, u98, u99, u100, u101, u102, u103, u104, u105, u106, u107, u108, u109, u110, u111, u112, u113, u114, u115, u116, u117, u118, u119, u120, u121, u122, u123, u124, u125, u126, u127, u128, u129, u130, u131, u132, u133, u134, u135, u136, u137, u138, u139, u140, u141, u142, u143, u144, u145, u146, u147, u148, u149, u150, u151, u152, u153, u154, u155, u156, u157, u158, u159, u160, u161, u162, u163, u164, u165, u166, u167, u168, u169, u170, u171, u172, u173, u174, u175, u176, u177, u178, u179, u180, u181, u182, u183, u184, u185, u186, u187, u188, u189, u190, u191, u192, u193, u194, u195, u196, u197, u198, u199, u200, u201, u202, u203, u204, u205, u206, u207, u208, u209, u210, u211, u212, u213, u214, u215, u216, u217, u218, u219, u220, u221, u222, u223, u224, u225, u226, u227, u228, u229, u230, u231, u232, u233, u234, u235, u236, u237, u238, u239, u240, u241, u242, u243, u244, u245, u246, u247, u248, u249, u250, u251, u252, u253, u254, u255, u256, u257, u258, u259, u260, u261, u262, u263, u264, u265, u266, u267, u268, u269, u270, u271, u272, u273, u274, u275, u276, u277, u278, u279, u280, u281, u282, u283, u284, u285, u286, u287, u288, u289, u290, u291, u292, u293, u294, u295, u296, u297, u298, u299, u300, u301, u302, u303, u304, u305, u306, u307, u308, u309, u310, u311, u312, u313, u314, u315, u316, u317, u318, u319, u320, u321, u322, u323, u324, u325, u326, u327, u328, u329, u330, u331, u332, u333, u334, u335, u336, u337, u338, u339, u340, u341, u342, u343, u344, u345, u346, u347, u348, u349, u350, u351, u352, u353, u354, u355, u356, u357, u358, u359, u360, u361, u362, u363, u364, u365, u366, u367, u368, u369, u370, u371, u372, u373, u374], []⟩ wr) Q0) ⟨#[u0, u1, .int .u64 (EP : Int), u3, .slice ao xs.length cap, undef, undef, undef, undef, undef, u10, .pointer (some ⟨P0, 0, none⟩), .pointer (some ⟨p, 0, none⟩), u13, .pointer (some ⟨q, 0, none⟩), .int .i64 k, u16, u17, u18, u19, u20, u21, u22, u23, u24, u25, u26, u27, u28, u29, u30, u31, u32, u33, u34, u35, u36, u37, u38, u39, u40, u41, u42, u43, u44, u45, u46, u47, u48, u49, u50, u51, u52, u53, u54, u55, u56, u57, u58, u59, u60, u61, u62, u63, u64, u65, u66, u67, u68, u69, u70, u71, u72, u73, u74, u75, u76, u77, u78, u79, u80, u81, u82, u83, u84, u85, u86, u87, u88, u89, u90, u91, u92, u93, u94, u95, u96, u97, u98, u99, u100, u101, u102, u103, u104, u105, u106, u107, u108, u109, u110, u111, u112, u113, u114, u115, u116, u117, u118, u119, u120, u121, u122, u123, u124, u125, u126, u127, u128, u129, u130, u131, u132, u133, u134, u135, u136, u137, u138, u139, u140, u141, u142, u143, u144, u145, u146, u147, u148, u149, u150, u151, u152, u153, u154, u155, u156, u157, u158, u159, u160, u161, u162, u163, u164, u165, u166, u167, u168, u169, u170, u171, u172, u173, u174, u175, u176, u177, u178, u179, u180, u181, u182, u183, u184, u185, u186, u187, u188, u189, u190, u191, u192, u193, u194, u195, u196, u197, u198, u199, u200, u201, u202, u203, u204, u205, u206, u207, u208, u209, u210, u211, u212, u213, u214, u215, u216, u217, u218, u219, u220, u221, u222, u223, u224, u225, u226, u227, u228, u229, u230, u231, u232, u233, u234, u235, u236, u237, u238, u239, u240, u241, u242, u243, u244, u245, u246, u247, u248, u249, u250, u251, u252, u253, u254, u255, u256, u257, u258, u259, u260, u261, u262, u263, u264, u265, u266, u267, u268, u269, u270, u271, u272, u273, u274, u275, u276, u277, u278, u279, u280, u281, u282, u283, u284, u285, u286, u287, u288, u289, u290, u291, u292, u293, u294, u295, u296, u297, u298, u299, u300, u301, u302, u303, u304, u305, u306, u307, u308, u309, u310, u311, u312, u313, u314, u315, u316, u317, u318, u319, u320, u321, u322, u323, u324, u325, u326, u327, u328, u329, u330, u331, u332, u333, u334, u335, u336, u337, u338, u339, u340, u341, u342, u343, u344, u345, u346, u347, u348, u349, u350, u351, u352, u353, u354, u355, u356, u357, u358, u359, u360, u361, u362, u363, u364, u365, u366, u367, u368, u369, u370, u371, u372, u373, u374], []⟩ wr := by
  conv => arg 2; whnf
  obtain ⟨b, o, rfl, hok, hrg⟩ := HR.out k hlt
  obtain ⟨y, hy⟩ : ∃ y, y = xs[k] := ⟨_, rfl⟩
  rw [← hy] at hok hrg hkd hn1
  have HOK : Hid (OeOk w1 y) := hok
  have hk0 : (0 : Int) ≤ (k : Int) := by omega
  have hkI : (k : Int) < (xs.length : Int) := by omega
  have hkw : IntKind.i64.wrap ((k : Int) + 1) = ((k + 1 : Nat) : Int) := by rw [IntKind.wrap_i64]; omega
  have hLD := rangeAt_below hrg HB.out
  obtain ⟨wa, hwa⟩ : ∃ wa, wa = wr.alloc (.cells y.c tOe) := ⟨_, rfl⟩
  have hba : Below wr.heap.size wr wa := by rw [hwa]; exact alw (Below.refl _ _) _
  have hbxa : wa.heap[wr.heap.size]? = some (.cells y.c tOe (0, 0)) := by rw [hwa]; exact heap_alloc_new wr _
  have hoc := oeCells hbxa
  have hHa : Exb wa (fun b => b < w1.heap.size ∨ b = wr.heap.size) p ms mn pw mw V q v s s := by rw [hwa]; exact HE.out.box _
  have HEa : Hid _ := hHa
  have HBa : Hid (Below w1.heap.size w1 wa) := below_next HB.out hba
  have HXa : Hid _ := hbxa
  have HWA : Hid (wa = _) := hwa
  have HSZa : Hid (w1.heap.size ≤ wr.heap.size ∧ wr.heap.size < wa.heap.size) := ⟨HB.out.size, (Array.getElem?_eq_some_iff.1 hbxa).1⟩
  rw [hwa] at hoc
  clear hy hok hrg hwa hba hbxa hHa
  have k1 : (y.kd == 1) = true := by simp [hkd]
  clear hkd
  have hoca : ∀ u, Below wa.heap.size wa u → _ := fun u hu => oeCells ((hu.block _ HSZa.out.2).trans HXa.out)
  have HBG : Hid (∀ u, Below wa.heap.size wa u → ∀ (ao : Option Addr) (c : Nat), Calls Tryz.prog 8 #[.pointer (some ⟨p, 0, none⟩), .int .u64 (y.n : Int), fv y.k, .slice ao y.bn c, .int .u64 (y.now : Int)] u fun e w' => e = .returned (.tuple #[.slice none 0 0, .int .i64 1]) ∧ Below u.heap.size u w') := fun u hu ao c => by
    have h9 := HEa.out.a.below hu
    exact xbegin_num h9 y.n y.k ao y.bn c y.now (by unfold mxX; omega)
  have H_hn1 : Hid _ := hn1
  clear hn1
  go_upto_region 14 with (first
    | (refine wpList_load_g (by rfl) tOe _ rfl b (o + k * 15) (by rfl) y.c.toList _ hLD Tryz.underlying43 rfl infoOe ?_))
  rw [← HWA.out] at hoc ⊢
  clear hLD
  refine wp_region_noPanic ?_
  refine wp_region_held_drew (S := (fun u => Below wa.heap.size wa u)) (by kernel_rfl) (by first | exact (Below.refl _ _).drew | exact HB3.out | exact HB4.out | assumption) (fun hHeld => ?_)
  refine tz (i := 0) 78 rfl rfl hHeld ?_
  simp only [pS]
  refine tz (i := 1) 79 rfl rfl hHeld ?_
  simp only [pS]
  refine tz (i := 2) 80 rfl rfl hHeld ?_
  simp only [pS]
  refine tz (i := 3) 81 rfl rfl hHeld ?_
  simp only [pS]
  refine tz (i := 4) 82 rfl rfl hHeld ?_
  simp only [pS]
  refine tz (i := 5) 83 rfl rfl hHeld ?_
  simp only [pS]
  refine tz (i := 6) 84 rfl rfl hHeld ?_
  simp only [pS]
  refine tz (i := 8) 86 rfl rfl hHeld ?_
  simp only [pS]
  refine tz (i := 9) 87 rfl rfl hHeld ?_
  simp only [pS]
  refine run_at (i := 7) rfl (by kernel_rfl) (by rfl) (fun K hK => ?_)
  simp only [List.getElem_toArray, List.getElem_cons_zero, List.getElem_cons_succ]
  first | (go_at_call 8; refine Calls.mono (HBG.out w3 HB3.out a3 c3) ?_; rintro e9 w4 ⟨rfl, hb4⟩; have HB4 : Hid (Below wa.heap.size wa w4) := below_next HB3.out hb4; clear hb4) | (refine wpo_appN _ _ rfl wa.heap.size (.slice none 0 0) [] y.xs y.ba y.bc rfl (World.ownsRow_nil _ _ _ _) (by rw [← HOK.out.bn]; rfl) (OeOk.below HOK.out HBa.out.drew).br HOK.out.bz (by have h7 := HOK.out.bl; have h8 := HOK.out.bb; have h9 := HOK.out.bn; simp only [List.length_nil]; omega) (by exact Nat.le_refl _) ?_; intro v3 w3 hown3 hg3; rw [List.nil_append] at hown3; obtain ⟨a3, c3, hv3, hlc3, -, -, hr3, -⟩ := hown3.val; rw [← HOK.out.bn] at hv3 hlc3; subst hv3; have HB3 : Hid (Below wa.heap.size wa w3) := (Below.refl _ _).drew.grown hg3 (Nat.le_refl _) (fun j hj => by cases hj); have HR3 : Hid (Rd w3 a3 y.xs) := hr3; have HLC : Hid (y.bn ≤ c3) := hlc3; clear hown3 hg3 hr3 hlc3)
  refine hK.out _ _ (by first | exact (Below.refl _ _).drew | exact HB3.out | exact HB4.out | assumption) ?_
  clear hK K
  intro hHeld2
  clear hHeld
  have hHeld := hHeld2
  clear hHeld2
  try simp only [pS]
  refine run_at (i := 10) rfl (by kernel_rfl) (by rfl) (fun K hK => ?_)
  simp only [List.getElem_toArray, List.getElem_cons_zero, List.getElem_cons_succ]
  go_simp
  first | (go_at_call 8; refine Calls.mono (HBG.out w3 HB3.out a3 c3) ?_; rintro e9 w4 ⟨rfl, hb4⟩; have HB4 : Hid (Below wa.heap.size wa w4) := below_next HB3.out hb4; clear hb4) | (refine wpo_appN _ _ rfl wa.heap.size (.slice none 0 0) [] y.xs y.ba y.bc rfl (World.ownsRow_nil _ _ _ _) (by rw [← HOK.out.bn]; rfl) (OeOk.below HOK.out HBa.out.drew).br HOK.out.bz (by have h7 := HOK.out.bl; have h8 := HOK.out.bb; have h9 := HOK.out.bn; simp only [List.length_nil]; omega) (by exact Nat.le_refl _) ?_; intro v3 w3 hown3 hg3; rw [List.nil_append] at hown3; obtain ⟨a3, c3, hv3, hlc3, -, -, hr3, -⟩ := hown3.val; rw [← HOK.out.bn] at hv3 hlc3; subst hv3; have HB3 : Hid (Below wa.heap.size wa w3) := (Below.refl _ _).drew.grown hg3 (Nat.le_refl _) (fun j hj => by cases hj); have HR3 : Hid (Rd w3 a3 y.xs) := hr3; have HLC : Hid (y.bn ≤ c3) := hlc3; clear hown3 hg3 hr3 hlc3)
  go_wp2_with fail
  refine hK.out _ _ (by first | exact (Below.refl _ _).drew | exact HB3.out | exact HB4.out | assumption) ?_
  clear hK K
  intro hHeld2
  clear hHeld
  have hHeld := hHeld2
  clear hHeld2
  try simp only [pS]
  refine tz (i := 11) 77 rfl rfl hHeld ?_
  simp only [pS]
  refine tz (i := 12) 89 rfl rfl hHeld ?_
  simp only [pS]
  refine tz (i := 13) 90 rfl rfl hHeld ?_
  simp only [pS]
  refine tz (i := 14) 17 rfl rfl hHeld ?_
  simp only [pS]
  refine tz (i := 15) 18 rfl rfl hHeld ?_
  simp only [pS]
  refine wpAnyH_done (by kernel_rfl) ?_ _
  refine NoPanic.normal ?_
  clear hHeld hoca
  have HE4 : Hid (Exb w4 (fun b => b < w1.heap.size ∨ b = wr.heap.size) p ms mn pw mw V q v s s) := HEa.out.below HB4.out
  have HX4 : Hid (w4.heap[wr.heap.size]? = _) := (HB4.out.block _ HSZa.out.2).trans HXa.out
  have HBw4 : Hid (Below w1.heap.size w1 w4) := below_next HBa.out HB4.out
  have hoc1 := oeCells HX4.out
  have HOF1 : Hid _ := bof_any HE4.out.b y.k
  go_wp2_with fail
  refine Calls.mono HOF1.out ?_
  rintro e9 wf1 ⟨⟨x1, bb1, rfl⟩, hbf1⟩
  obtain ⟨wg1, hwg1⟩ : ∃ u, u = wf1.alloc (.cells #[.int .u64 (x1.n : Int), .int .i64 x1.k.1, .int .u64 (x1.k.2 : Int), .int .u64 (x1.ov : Int)] tBs) := ⟨_, rfl⟩
  have hbg1 : Below w4.heap.size w4 wg1 := by rw [hwg1]; exact alw hbf1 _
  have HEg1 : Hid _ := HE4.out.below hbg1
  have HXg1 : Hid (wg1.heap[wr.heap.size]? = _) := (hbg1.block _ (Array.getElem?_eq_some_iff.1 HX4.out).1).trans HX4.out
  have HBg1 : Hid (Below w1.heap.size w1 wg1) := below_next HBw4.out hbg1
  have HBl1 : Hid _ := hbg1
  have HWg1 : Hid (wg1 = _) := hwg1
  clear hbf1 hbg1 hwg1 hoc1
  have hocg1 := oeCells HXg1.out
  rw [HWg1.out] at hocg1
  have HOF2 : Hid _ := bnum_any HEg1.out.b y.n
  go_wp2_with fail
  rw [← HWg1.out] at hocg1 ⊢
  clear hocg1
  refine Calls.mono HOF2.out ?_
  rintro e9 wf2 ⟨⟨x2, bb2, rfl⟩, hbf2⟩
  obtain ⟨wg2, hwg2⟩ : ∃ u, u = wf2.alloc (.cells #[.int .u64 (x2.n : Int), .int .i64 x2.k.1, .int .u64 (x2.k.2 : Int), .int .u64 (x2.ov : Int)] tBs) := ⟨_, rfl⟩
  have hbg2 : Below wg1.heap.size wg1 wg2 := by rw [hwg2]; exact alw hbf2 _
  have HEg2 : Hid _ := HEg1.out.below hbg2
  have HXg2 : Hid (wg2.heap[wr.heap.size]? = _) := (hbg2.block _ (Array.getElem?_eq_some_iff.1 HXg1.out).1).trans HXg1.out
  have HBg2 : Hid (Below w1.heap.size w1 wg2) := below_next HBg1.out hbg2
  have HBl2 : Hid _ := hbg2
  have HWg2 : Hid (wg2 = _) := hwg2
  clear hbf2 hbg2 hwg2
  have hocg2 := oeCells HXg2.out
  rw [HWg2.out] at hocg2
  have zn0 : (0 : Int) < (y.n : Int) := by have := H_hn1.out; omega
  go_upto_region 17 with (fail)
  iterate 27 (first | go_skip | go_guarded | go_step)
  rw [show decide ((y.n : Int) < 281474976710656) = false from decide_eq_false (by have := H_hn1.out; omega)]
  go_upto_region 58 with (fail)
  rw [← HWg2.out] at hocg2 ⊢
  clear hocg2
  obtain ⟨n9, hn9⟩ : ∃ n9, n9 = (s).L.length := ⟨_, rfl⟩
  have hn64 : n9 ≤ 64 := by rw [hn9]; exact HEg2.out.a.inv.len
  obtain ⟨a9, cp9, hv9, -, -, -, hrd9⟩ := OwnG.val HEg2.out.b.row
  have hv9' : v = .slice a9 n9 cp9 := by rw [hn9]; exact hv9
  have hcs9 : ∀ u, Below wg2.heap.size wg2 u → u.cell? ⟨q, 0, none⟩ = some (.slice a9 n9 cp9) := fun u hu => by rw [← hv9']; exact (HEg2.out.b.below hu).cell 0
  have hc9a := hcs9 wg2 (Below.refl _ _)
  have HN9 : Hid _ := hn9
  have HR9 : Hid (RdG KBs wg2 a9 (s).L) := hrd9
  clear hn9 hv9 hv9' hrd9
  go_wp2
  go_loopw [37, 38] (fun u j wv => ∃ i : Nat, i ≤ n9 ∧ j = .int .i64 (i : Int) ∧ OwnG KKy wv wg2.heap.size u (((s).L.take i).map Xe.k) ∧ Below wg2.heap.size wg2 wv) (fun _ j _ => n9 - (intOf j).toNat)
  case atStart => exact ⟨0, Nat.zero_le _, rfl, World.ownsRow_nil _ _ _ _, Below.refl _ _⟩
  case round =>
    rename World => wv
    obtain ⟨i, hin, rfl, hown, hbv⟩ := hrel
    have hiw : IntKind.i64.wrap ((i : Int) + 1) = ((i + 1 : Nat) : Int) := by rw [IntKind.wrap_i64]; omega
    have hc9 := hcs9 wv hbv
    by_cases hlt9 : i < n9
    · have hlti : (i : Int) < (n9 : Int) := by omega
      have hi0 : (0 : Int) ≤ (i : Int) := by omega
      have hi1 : i < (s).L.length := by rw [← HN9.out]; exact hlt9
      obtain ⟨b9, o9, rfl, r1, -⟩ := RdG.below HR9.out hbv i hi1
      obtain ⟨x, hx⟩ : ∃ x : Xe, x = (s).L[i] := ⟨_, rfl⟩
      have g1 := r1 1 (.int .i64 x.k.1) (by rw [hx]; rfl)
      have g2 : wv.cell? ⟨b9, o9 + i * 4 + 1 + 1, none⟩ = some (.int .u64 (x.k.2 : Int)) := r1 2 (.int .u64 (x.k.2 : Int)) (by rw [hx]; rfl)
      have HT : Hid (((s).L.take i).map Xe.k ++ [x.k] = ((s).L.take (i + 1)).map Xe.k) := by unfold Hid; rw [List.take_succ_eq_append_getElem hi1, ← hx]; simp
      have HSZ : Hid (wg2.heap.size ≤ wv.heap.size) := hbv.size
      have HO : Hid (OwnG KKy (wv.alloc (.cells #[.int .i64 x.k.1, .int .u64 (x.k.2 : Int)] tFk)) wg2.heap.size u37 (((s).L.take i).map Xe.k)) := hown.below (alw (Below.refl _ _) _)
      have HL9 : Hid (∀ b, u37.ownBlock = some b → wg2.heap.size ≤ b) := fun b hb => (hown.lt' hb).1
      obtain ⟨m9, hm9⟩ : ∃ m9, m9 = (((s).L.take i).map Xe.k).length := ⟨_, rfl⟩
      have hm64 : m9 ≤ 64 := by rw [hm9, List.length_map, List.length_take]; omega
      have HM9 : Hid _ := hm9
      have HBV : Hid _ := hbv
      clear r1 hx hi1 hown hbv hm9 hcs9
      go_wp2_with (at_builtin; refine wp_appG1 (K := KKy) rfl _ _ rfl wg2.heap.size u37 (((s).L.take i).map Xe.k) x.k m9 HM9.out ⟨wv.heap.size, 0, none⟩ 1 rfl HO.out rfl (rdF_new wv x.k _ rfl) (by show (m9 + 1) * 16 ≤ _; omega) (by simp only [maxLen]; omega) (by have := HSZ.out; simp; omega) ?_; intro g7 c7 w7 hown7 hg7 hlie7; rw [HT.out] at hown7; have HO7 : Hid _ := hown7; have HG7 : Hid _ := hg7; clear hown7 hg7 hlie7)
      go_roundw
      case rel => exact ⟨i + 1, hlt9, by go_num, HO7.out, (alw HBV.out _).grown HG7.out (by have := HSZ.out; simp; omega) (fun j hj => HL9.out j hj)⟩
      case measure => simp [intOf]; omega
    · have hlti : ¬ (i : Int) < (n9 : Int) := by omega
      have htk : (s).L.take i = (s).L := List.take_of_length_le (by rw [← HN9.out]; omega)
      rw [htk] at hown
      have HEv : Hid _ := HEg2.out.below hbv
      have HOV : Hid _ := hown
      obtain ⟨n8, hn8⟩ : ∃ n8, n8 = ((s).L.map Xe.k).length := ⟨_, rfl⟩
      have hn864 : n8 ≤ 64 := by rw [hn8, List.length_map, ← HN9.out]; exact hn64
      obtain ⟨ab, cb, hvb, -, -, -, hrb⟩ := hown.val
      rw [← hn8] at hvb
      subst hvb
      have HN8 : Hid _ := hn8
      have HRB : Hid (RdG KKy wv ab ((s).L.map Xe.k)) := hrb
      have HBV : Hid _ := hbv
      clear htk hown hbv hcs9 hn8 hrb
      go_wp2_with (first
        | (go_at_call 18; refine Calls.mono (xbusy_t HEv.out.a) ?_; rintro e9 w5 ⟨va, rfl, howna, hb5⟩; obtain ⟨aa, ca, hva, -, -, -, hra⟩ := howna.val; rw [← HN8.out] at hva; subst hva; have HRA : Hid (RdG KKy w5 aa ((s).L.map Xe.k)) := hra; have HB5 : Hid _ := hb5; clear howna hb5 hra)
        | (go_at_call 15; refine Calls.mono (sameKeys_t aa ab n8 ca cb ((s).L.map Xe.k) HN8.out (by omega) HRA.out (RdG.below HRB.out HB5.out)) ?_; rintro e9 w7 ⟨rfl, hb7⟩; have HB7 : Hid _ := hb7; clear hb7))
      refine ⟨?_, ?_⟩
      · unfold WIx
        iterate 365 (apply Exists.intro)
        have h9 := HEv.out.below (below_next HB5.out HB7.out)
        exact ⟨⟨k + 1, V, v, s, by omega, by go_num, Nat.le_trans HSB.out (Nat.le_succ _), HSC.out, h9.less (fun b hb => .inl hb) (Nat.lt_of_lt_of_le (Nat.lt_of_le_of_lt (Nat.zero_le _) hlt0) (Nat.le_refl _)), HBg2.out.trans ((below_next HBV.out (below_next HB5.out HB7.out)).mono HBg2.out.size)⟩, rfl⟩
      · simp [Wmux, intOf]; omega
end Go.Proofs.YtiedgcanndgmoaaGreatDoor
namespace Go.Proofs.YtiedgcanndgmoaaGreatDoor
set_option linter.unusedVariables false
set_option linter.unusedSimpArgs false
open Go.RowKit Go.Maps
set_option maxRecDepth 100000 in
set_option maxHeartbeats 12800000 in
theorem ocase1ky (w1 : World) (ao : Option Addr) (cap : Nat) (xs : List Oe) (P0 p ms mn pw mw q M A EP : Nat) (hM : 16 ≤ M ∧ M ≤ 1024) (hAk : A ≤ 4096) (hEP : 1 ≤ EP ∧ EP ≤ 281474976710655) (hl : xs.length ≤ 4398046511103) (HR : Hid (RdOe w1 ao xs)) (HC : Hid (w1.heap[P0]? = some (.cells #[.int .i64 (M : Int), .int .u64 (A : Int), .int .u64 1, .int .i64 0, .int .i64 1, .int .i64 1] 25 (0, 0))))
    (u0 u1 u3 u10 u13 u16 u17 u18 u19 u20 u21 u22 u23 u24 u25 u26 u27 u28 u29 u30 u31 u32 u33 u34 u35 u36 u37 u38 u39 u40 u41 u42 u43 u44 u45 u46 u47 u48 u49 u50 u51 u52 u53 u54 u55 u56 u57 u58 u59 u60 u61 u62 u63 u64 u65 u66 u67 u68 u69 u70 u71 u72 u73 u74 u75 u76 u77 u78 u79 u80 u81 u82 u83 u84 u85 u86 u87 u88 u89 u90 u91 u92 u93 u94 u95 u96 u97 u98 u99 u100 u101 u102 u103 u104 u105 u106 u107 u108 u109 u110 u111 u112 u113 u114 u115 u116 u117 u118 u119 u120 u121 u122 u123 u124 u125 u126 u127 u128 u129 u130 u131 u132 u133 u134 u135 u136 u137 u138 u139 u140 u141 u142 u143 u144 u145 u146 u147 u148 u149 u150 u151 u152 u153 u154 u155 u156 u157 u158 u159 u160 u161 u162 u163 u164 u165 u166 u167 u168 u169 u170 u171 u172 u173 u174 u175 u176 u177 u178 u179 u180 u181 u182 u183 u184 u185 u186 u187 u188 u189 u190 u191 u192 u193 u194 u195 u196 u197 u198 u199 u200 u201 u202 u203 u204 u205 u206 u207 u208 u209 u210 u211 u212 u213 u214 u215 u216 u217 u218 u219 u220 u221 u222 u223 u224 u225 u226 u227 u228 u229 u230 u231 u232 u233 u234 u235 u236 u237 u238 u239 u240 u241 u242 u243 u244 u245 u246 u247 u248 u249 u250 u251 u252 u253 u254 u255 u256 u257 u258 u259 u260 u261 u262 u263 u264 u265 u266 u267 u268 u269 u270 u271 u272 u273 u274 u275 u276 u277 u278 u279 u280 u281 u282 u283 u284 u285 u286 u287 u288 u289 u290 u291 u292 u293 u294 u295 u296 u297 u298 u299 u300 u301 u302 u303 u304 u305 u306 u307 u308 u309 u310 u311 u312 u313 u314 u315 u316 u317 u318 u319 u320 u321 u322 u323 u324 u325 u326 u327 u328 u329 u330 u331 u332 u333 u334 u335 u336 u337 u338 u339 u340 u341 u342 u343 u344 u345 u346 u347 u348 u349 u350 u351 u352 u353 u354 u355 u356 u357 u358 u359 u360 u361 u362 u363 u364 u365 u366 u367 u368 u369 u370 u371 u372 u373 u374 : Value) (wr : World) (k : Nat) (V : Nat → Nat → Value) (v : Value) (s : Xs) (hk : k ≤ xs.length) (HSB : Hid (s.beg ≤ k)) (HSC : Hid (s.mtu = M ∧ s.ack = A ∧ s.ep = EP)) (HE : Hid (Exb wr (fun b => b < w1.heap.size) p ms mn pw mw V q v s s)) (HB : Hid (Below w1.heap.size w1 wr)) (hlt0 : 0 < w1.heap.size) (hlt : k < xs.length) (hkd : xs[k].kd = 1) (hnn : 1 ≤ xs[k].n ∧ xs[k].n ≤ 281474976710655) (hky : ¬ goodK xs[k].k) (Q0 : Exit → Act → World → Prop) :
    Code.wp Tryz.prog (TBx Tryz.f3.body) (Exit.then (fun a' w'' => WIx w1 ao cap xs P0 p ms mn pw mw q M A EP a' w'' ∧ Wmux xs.length a' w'' < Wmux xs.length ⟨#[u0, u1, .int .u64 (EP : Int), u3, .slice ao xs.length cap, undef, undef, undef, undef, undef, u10, .pointer (some ⟨P0, 0, none⟩), .pointer (some ⟨p, 0, none⟩), u13, .pointer (some ⟨q, 0, none⟩), .int .i64 k, u16, u17, u18, u19, u20, u21, u22, u23, u24, u25, u26, u27, u28, u29, u30, u31, u32, u33, u34, u35, u36, u37, u38, u39, u40, u41, u42, u43, u44, u45, u46, u47, u48, u49, u50, u51, u52, u53, u54, u55, u56, u57, u58, u59, u60, u61, u62, u63, u64, u65, u66, u67, u68, u69, u70, u71, u72, u73, u74, u75, u76, u77, u78, u79, u80, u81, u82, u83, u84, u85, u86, u87, u88, u89, u90, u91, u92, u93, u94, u95, u96, u97, u98, u99, u100, u101, u102, u103, u104, u105, u106, u107, u108, u109, u110, u111, u112, u113, u114, u115, u116, u117, u118, u119, u120, u121, u122, u123, u124, u125, u126, u127, u128, u129, u130, u131, u132, u133, u134, u135, u136, u137, u138, u139, u140, u141, u142, u143, u144, u145, u146, u147, u148, u149, u150, u151, u152, u153, u154, u155, u156, u157, u158, u159, u160, u161, u162, u163, u164, u165, u166, u167, u168, u169, u170, u171, u172, u173, u174, u175, u176, u177, u178, u179, u180, u181, u182, u183, u184, u185, u186, u187, u188, u189, u190, u191, u192, u193, u194, u195, u196, u197, u198, u199, u200, u201, u202, u203, u204, u205, u206, u207, u208, u209, u210, u211, u212, u213, u214, u215, u216, u217, u218, u219, u220, u221, u222, u223, u224, u225, u226, u227, u228, u229, u230, u231, u232, u233, u234, u235, u236, u237, u238, u239, u240, u241, u242, u243, u244, u245, u246, u247, u248, u249, u250, u251, u252, u253, u254, u255, u256, u257, u258, u259, u260, u261, u262, u263, u264, u265, u266, u267, u268, u269, u270, u271, u272, u273, u274, u275, u276, u277, u278, u279, u280, u281, u282, u283, u284, u285, u286, u287, u288, u289, u290, u291, u292, u293, u294, u295, u296, u297, u298, u299, u300, u301, u302, u303, u304, u305, u306, u307, u308, u309, u310, u311, u312, u313, u314, u315, u316, u317, u318, u319, u320, u321, u322, u323, u324, u325, u326, u327, u328, u329, u330, u331, u332, u333, u334, u335, u336, u337, u338, u339, u340, u341, u342, u343, u344, u345, u346, u347, u348, u349, u350, u351, u352, u353, u354, u355, u356, u357, u358, u359, u360, u361, u362, u363, u364, u365, u366, u367, u368, u369, u370, u371, u372, u373, u374], []⟩ wr) Q0) ⟨#[u0, u1, .int .u64 (EP : Int), u3, .slice ao xs.length cap, undef, undef, undef, undef, undef, u10, .pointer (some ⟨P0, 0, none⟩), .pointer (some ⟨p, 0, none⟩), u13, .pointer (some ⟨q, 0, none⟩), .int .i64 k, u16, u17, u18, u19, u20, u21, u22, u23, u24, u25, u26, u27, u28, u29, u30, u31, u32, u33, u34, u35, u36, u37, u38, u39, u40, u41, u42, u43, u44, u45, u46, u47, u48, u49, u50, u51, u52, u53, u54, u55, u56, u57, u58, u59, u60, u61, u62, u63, u64, u65, u66, u67, u68, u69, u70, u71, u72, u73, u74, u75, u76, u77, u78, u79, u80, u81, u82, u83, u84, u85, u86, u87, u88, u89, u90, u91, u92, u93, u94, u95, u96, u97, u98, u99, u100, u101, u102, u103, u104, u105, u106, u107, u108, u109, u110, u111, u112, u113, u114, u115, u116, u117, u118, u119, u120, u121, u122, u123, u124, u125, u126, u127, u128, u129, u130, u131, u132, u133, u134, u135, u136, u137, u138, u139, u140, u141, u142, u143, u144, u145, u146, u147, u148, u149, u150, u151, u152, u153, u154, u155, u156, u157, u158, u159, u160, u161, u162, u163, u164, u165, u166, u167, u168, u169, u170, u171, u172, u173, u174, u175, u176, u177, u178, u179, u180, u181, u182, u183, u184, u185, u186, u187, u188, u189, u190, u191, u192, u193, u194, u195, u196, u197, u198, u199, u200, u201, u202, u203, u204, u205, u206, u207, u208, u209, u210, u211, u212, u213, u214, u215, u216, u217, u218, u219, u220, u221, u222, u223, u224, u225, u226, u227, u228, u229, u230, u231, u232, u233, u234, u235, u236, u237, u238, u239, u240, u241, u242, u243, u244, u245, u246, u247, u248, u249, u250, u251, u252, u253, u254, u255, u256, u257, u258, u259, u260, u261, u262, u263, u264, u265, u266, u267, u268, u269, u270, u271, u272, u273, u274, u275, u276, u277, u278, u279, u280, u281, u282, u283, u284, u285, u286, u287, u288, u289, u290, u291, u292, u293, u294, u295, u296, u297, u298, u299, u300, u301, u302, u303, u304, u305, u306, u307, u308, u309, u310, u311, u312, u313, u314, u315, u316, u317, u318, u319, u320, u321, u322, u323, u324, u325, u326, u327, u328, u329, u330, u331, u332, u333, u334, u335, u336, u337, u338, u339, u340, u341, u342, u343, u344, u345, u346, u347, u348, u349, u350, u351, u352, u353, u354, u355, u356, u357, u358, u359, u360, u361, u362, u363, u364, u365, u366, u367, u368, u369, u370, u371, u372, u373, u374], []⟩ wr := by
  conv => arg 2; whnf
  obtain ⟨b, o, rfl, hok, hrg⟩ := HR.out k hlt
  obtain ⟨y, hy⟩ : ∃ y, y = xs[k] := ⟨_, rfl⟩
  rw [← hy] at hok hrg hkd hnn hky
  have HOK : Hid (OeOk w1 y) := hok
  have hk0 : (0 : Int) ≤ (k : Int) := by omega
  have hkI : (k : Int) < (xs.length : Int) := by omega
  have hkw : IntKind.i64.wrap ((k : Int) + 1) = ((k + 1 : Nat) : Int) := by rw [IntKind.wrap_i64]; omega
  have hLD := rangeAt_below hrg HB.out
  obtain ⟨wa, hwa⟩ : ∃ wa, wa = wr.alloc (.cells y.c tOe) := ⟨_, rfl⟩
  have hba : Below wr.heap.size wr wa := by rw [hwa]; exact alw (Below.refl _ _) _
  have hbxa : wa.heap[wr.heap.size]? = some (.cells y.c tOe (0, 0)) := by rw [hwa]; exact heap_alloc_new wr _
  have hoc := oeCells hbxa
  have hHa : Exb wa (fun b => b < w1.heap.size ∨ b = wr.heap.size) p ms mn pw mw V q v s s := by rw [hwa]; exact HE.out.box _
  have HEa : Hid _ := hHa
  have HBa : Hid (Below w1.heap.size w1 wa) := below_next HB.out hba
  have HXa : Hid _ := hbxa
  have HWA : Hid (wa = _) := hwa
  have HSZa : Hid (w1.heap.size ≤ wr.heap.size ∧ wr.heap.size < wa.heap.size) := ⟨HB.out.size, (Array.getElem?_eq_some_iff.1 hbxa).1⟩
  rw [hwa] at hoc
  clear hy hok hrg hwa hba hbxa hHa
  have k1 : (y.kd == 1) = true := by simp [hkd]
  clear hkd
  have hoca : ∀ u, Below wa.heap.size wa u → _ := fun u hu => oeCells ((hu.block _ HSZa.out.2).trans HXa.out)
  have HBG : Hid (∀ u, Below wa.heap.size wa u → ∀ (ao : Option Addr) (c : Nat), Calls Tryz.prog 8 #[.pointer (some ⟨p, 0, none⟩), .int .u64 (y.n : Int), fv y.k, .slice ao y.bn c, .int .u64 (y.now : Int)] u fun e w' => e = .returned (.tuple #[.slice none 0 0, .int .i64 1]) ∧ Below u.heap.size u w') := fun u hu ao c => by
    have h9 := HEa.out.a.below hu
    exact xbegin_key h9 y.n y.k ao y.bn c y.now hnn hky
  have H_hnn : Hid _ := hnn
  have H_hky : Hid _ := hky
  have HGD : Hid (∀ u, Calls Tryz.prog 11 #[fv y.k] u fun e w' => e = .returned (.bool false) ∧ Below u.heap.size u w') := fun u => by
    have h9 := rgood_t y.k u
    rw [show decide (0 ≤ y.k.1 ∧ y.k.1 < 8 ∧ y.k.2 ≤ mxX) = false from decide_eq_false hky] at h9
    exact h9
  clear hnn hky
  go_upto_region 14 with (first
    | (refine wpList_load_g (by rfl) tOe _ rfl b (o + k * 15) (by rfl) y.c.toList _ hLD Tryz.underlying43 rfl infoOe ?_))
  rw [← HWA.out] at hoc ⊢
  clear hLD
  refine wp_region_noPanic ?_
  refine wp_region_held_drew (S := (fun u => Below wa.heap.size wa u)) (by kernel_rfl) (by first | exact (Below.refl _ _).drew | exact HB3.out | exact HB4.out | assumption) (fun hHeld => ?_)
  refine tz (i := 0) 78 rfl rfl hHeld ?_
  simp only [pS]
  refine tz (i := 1) 79 rfl rfl hHeld ?_
  simp only [pS]
  refine tz (i := 2) 80 rfl rfl hHeld ?_
  simp only [pS]
  refine tz (i := 3) 81 rfl rfl hHeld ?_
  simp only [pS]
  refine tz (i := 4) 82 rfl rfl hHeld ?_
  simp only [pS]
  refine tz (i := 5) 83 rfl rfl hHeld ?_
  simp only [pS]
  refine tz (i := 6) 84 rfl rfl hHeld ?_
  simp only [pS]
  refine tz (i := 8) 86 rfl rfl hHeld ?_
  simp only [pS]
  refine tz (i := 9) 87 rfl rfl hHeld ?_
  simp only [pS]
  refine run_at (i := 7) rfl (by kernel_rfl) (by rfl) (fun K hK => ?_)
  simp only [List.getElem_toArray, List.getElem_cons_zero, List.getElem_cons_succ]
  first | (go_at_call 8; refine Calls.mono (HBG.out w3 HB3.out a3 c3) ?_; rintro e9 w4 ⟨rfl, hb4⟩; have HB4 : Hid (Below wa.heap.size wa w4) := below_next HB3.out hb4; clear hb4) | (refine wpo_appN _ _ rfl wa.heap.size (.slice none 0 0) [] y.xs y.ba y.bc rfl (World.ownsRow_nil _ _ _ _) (by rw [← HOK.out.bn]; rfl) (OeOk.below HOK.out HBa.out.drew).br HOK.out.bz (by have h7 := HOK.out.bl; have h8 := HOK.out.bb; have h9 := HOK.out.bn; simp only [List.length_nil]; omega) (by exact Nat.le_refl _) ?_; intro v3 w3 hown3 hg3; rw [List.nil_append] at hown3; obtain ⟨a3, c3, hv3, hlc3, -, -, hr3, -⟩ := hown3.val; rw [← HOK.out.bn] at hv3 hlc3; subst hv3; have HB3 : Hid (Below wa.heap.size wa w3) := (Below.refl _ _).drew.grown hg3 (Nat.le_refl _) (fun j hj => by cases hj); have HR3 : Hid (Rd w3 a3 y.xs) := hr3; have HLC : Hid (y.bn ≤ c3) := hlc3; clear hown3 hg3 hr3 hlc3)
  refine hK.out _ _ (by first | exact (Below.refl _ _).drew | exact HB3.out | exact HB4.out | assumption) ?_
  clear hK K
  intro hHeld2
  clear hHeld
  have hHeld := hHeld2
  clear hHeld2
  try simp only [pS]
  refine run_at (i := 10) rfl (by kernel_rfl) (by rfl) (fun K hK => ?_)
  simp only [List.getElem_toArray, List.getElem_cons_zero, List.getElem_cons_succ]
  go_simp
  first | (go_at_call 8; refine Calls.mono (HBG.out w3 HB3.out a3 c3) ?_; rintro e9 w4 ⟨rfl, hb4⟩; have HB4 : Hid (Below wa.heap.size wa w4) := below_next HB3.out hb4; clear hb4) | (refine wpo_appN _ _ rfl wa.heap.size (.slice none 0 0) [] y.xs y.ba y.bc rfl (World.ownsRow_nil _ _ _ _) (by rw [← HOK.out.bn]; rfl) (OeOk.below HOK.out HBa.out.drew).br HOK.out.bz (by have h7 := HOK.out.bl; have h8 := HOK.out.bb; have h9 := HOK.out.bn; simp only [List.length_nil]; omega) (by exact Nat.le_refl _) ?_; intro v3 w3 hown3 hg3; rw [List.nil_append] at hown3; obtain ⟨a3, c3, hv3, hlc3, -, -, hr3, -⟩ := hown3.val; rw [← HOK.out.bn] at hv3 hlc3; subst hv3; have HB3 : Hid (Below wa.heap.size wa w3) := (Below.refl _ _).drew.grown hg3 (Nat.le_refl _) (fun j hj => by cases hj); have HR3 : Hid (Rd w3 a3 y.xs) := hr3; have HLC : Hid (y.bn ≤ c3) := hlc3; clear hown3 hg3 hr3 hlc3)
  go_wp2_with fail
  refine hK.out _ _ (by first | exact (Below.refl _ _).drew | exact HB3.out | exact HB4.out | assumption) ?_
  clear hK K
  intro hHeld2
  clear hHeld
  have hHeld := hHeld2
  clear hHeld2
  try simp only [pS]
  refine tz (i := 11) 77 rfl rfl hHeld ?_
  simp only [pS]
  refine tz (i := 12) 89 rfl rfl hHeld ?_
  simp only [pS]
  refine tz (i := 13) 90 rfl rfl hHeld ?_
  simp only [pS]
  refine tz (i := 14) 17 rfl rfl hHeld ?_
  simp only [pS]
  refine tz (i := 15) 18 rfl rfl hHeld ?_
  simp only [pS]
  refine wpAnyH_done (by kernel_rfl) ?_ _
  refine NoPanic.normal ?_
  clear hHeld hoca
  have HE4 : Hid (Exb w4 (fun b => b < w1.heap.size ∨ b = wr.heap.size) p ms mn pw mw V q v s s) := HEa.out.below HB4.out
  have HX4 : Hid (w4.heap[wr.heap.size]? = _) := (HB4.out.block _ HSZa.out.2).trans HXa.out
  have HBw4 : Hid (Below w1.heap.size w1 w4) := below_next HBa.out HB4.out
  have hoc1 := oeCells HX4.out
  have HOF1 : Hid _ := bof_any HE4.out.b y.k
  go_wp2_with fail
  refine Calls.mono HOF1.out ?_
  rintro e9 wf1 ⟨⟨x1, bb1, rfl⟩, hbf1⟩
  obtain ⟨wg1, hwg1⟩ : ∃ u, u = wf1.alloc (.cells #[.int .u64 (x1.n : Int), .int .i64 x1.k.1, .int .u64 (x1.k.2 : Int), .int .u64 (x1.ov : Int)] tBs) := ⟨_, rfl⟩
  have hbg1 : Below w4.heap.size w4 wg1 := by rw [hwg1]; exact alw hbf1 _
  have HEg1 : Hid _ := HE4.out.below hbg1
  have HXg1 : Hid (wg1.heap[wr.heap.size]? = _) := (hbg1.block _ (Array.getElem?_eq_some_iff.1 HX4.out).1).trans HX4.out
  have HBg1 : Hid (Below w1.heap.size w1 wg1) := below_next HBw4.out hbg1
  have HBl1 : Hid _ := hbg1
  have HWg1 : Hid (wg1 = _) := hwg1
  clear hbf1 hbg1 hwg1 hoc1
  have hocg1 := oeCells HXg1.out
  rw [HWg1.out] at hocg1
  have HOF2 : Hid _ := bnum_any HEg1.out.b y.n
  go_wp2_with fail
  rw [← HWg1.out] at hocg1 ⊢
  clear hocg1
  refine Calls.mono HOF2.out ?_
  rintro e9 wf2 ⟨⟨x2, bb2, rfl⟩, hbf2⟩
  obtain ⟨wg2, hwg2⟩ : ∃ u, u = wf2.alloc (.cells #[.int .u64 (x2.n : Int), .int .i64 x2.k.1, .int .u64 (x2.k.2 : Int), .int .u64 (x2.ov : Int)] tBs) := ⟨_, rfl⟩
  have hbg2 : Below wg1.heap.size wg1 wg2 := by rw [hwg2]; exact alw hbf2 _
  have HEg2 : Hid _ := HEg1.out.below hbg2
  have HXg2 : Hid (wg2.heap[wr.heap.size]? = _) := (hbg2.block _ (Array.getElem?_eq_some_iff.1 HXg1.out).1).trans HXg1.out
  have HBg2 : Hid (Below w1.heap.size w1 wg2) := below_next HBg1.out hbg2
  have HBl2 : Hid _ := hbg2
  have HWg2 : Hid (wg2 = _) := hwg2
  clear hbf2 hbg2 hwg2
  have hocg2 := oeCells HXg2.out
  rw [HWg2.out] at hocg2
  have zn0 : (0 : Int) < (y.n : Int) := by have := H_hnn.out; omega
  go_upto_region 17 with (fail)
  iterate 27 (first | go_skip | go_guarded | go_step)
  rw [show decide ((y.n : Int) < 281474976710656) = true from decide_eq_true (by have := H_hnn.out; omega)]
  go_wp2_with fail
  rw [← HWg2.out] at hocg2 ⊢
  clear hocg2
  refine Calls.mono (HGD.out _) ?_
  rintro e9 w9 ⟨rfl, hb9⟩
  have HEg9 : Hid _ := HEg2.out.below hb9
  have HXg9 : Hid (w9.heap[wr.heap.size]? = _) := (hb9.block _ (Array.getElem?_eq_some_iff.1 HXg2.out).1).trans HXg2.out
  have HBg9 : Hid (Below w1.heap.size w1 w9) := below_next HBg2.out hb9
  have hocg9 := oeCells HXg9.out
  clear hb9
  go_upto_region 58 with (fail)
  clear hocg9
  obtain ⟨n9, hn9⟩ : ∃ n9, n9 = (s).L.length := ⟨_, rfl⟩
  have hn64 : n9 ≤ 64 := by rw [hn9]; exact HEg9.out.a.inv.len
  obtain ⟨a9, cp9, hv9, -, -, -, hrd9⟩ := OwnG.val HEg9.out.b.row
  have hv9' : v = .slice a9 n9 cp9 := by rw [hn9]; exact hv9
  have hcs9 : ∀ u, Below w9.heap.size w9 u → u.cell? ⟨q, 0, none⟩ = some (.slice a9 n9 cp9) := fun u hu => by rw [← hv9']; exact (HEg9.out.b.below hu).cell 0
  have hc9a := hcs9 w9 (Below.refl _ _)
  have HN9 : Hid _ := hn9
  have HR9 : Hid (RdG KBs w9 a9 (s).L) := hrd9
  clear hn9 hv9 hv9' hrd9
  go_wp2
  go_loopw [37, 38] (fun u j wv => ∃ i : Nat, i ≤ n9 ∧ j = .int .i64 (i : Int) ∧ OwnG KKy wv w9.heap.size u (((s).L.take i).map Xe.k) ∧ Below w9.heap.size w9 wv) (fun _ j _ => n9 - (intOf j).toNat)
  case atStart => exact ⟨0, Nat.zero_le _, rfl, World.ownsRow_nil _ _ _ _, Below.refl _ _⟩
  case round =>
    rename World => wv
    obtain ⟨i, hin, rfl, hown, hbv⟩ := hrel
    have hiw : IntKind.i64.wrap ((i : Int) + 1) = ((i + 1 : Nat) : Int) := by rw [IntKind.wrap_i64]; omega
    have hc9 := hcs9 wv hbv
    by_cases hlt9 : i < n9
    · have hlti : (i : Int) < (n9 : Int) := by omega
      have hi0 : (0 : Int) ≤ (i : Int) := by omega
      have hi1 : i < (s).L.length := by rw [← HN9.out]; exact hlt9
      obtain ⟨b9, o9, rfl, r1, -⟩ := RdG.below HR9.out hbv i hi1
      obtain ⟨x, hx⟩ : ∃ x : Xe, x = (s).L[i] := ⟨_, rfl⟩
      have g1 := r1 1 (.int .i64 x.k.1) (by rw [hx]; rfl)
      have g2 : wv.cell? ⟨b9, o9 + i * 4 + 1 + 1, none⟩ = some (.int .u64 (x.k.2 : Int)) := r1 2 (.int .u64 (x.k.2 : Int)) (by rw [hx]; rfl)
      have HT : Hid (((s).L.take i).map Xe.k ++ [x.k] = ((s).L.take (i + 1)).map Xe.k) := by unfold Hid; rw [List.take_succ_eq_append_getElem hi1, ← hx]; simp
      have HSZ : Hid (w9.heap.size ≤ wv.heap.size) := hbv.size
      have HO : Hid (OwnG KKy (wv.alloc (.cells #[.int .i64 x.k.1, .int .u64 (x.k.2 : Int)] tFk)) w9.heap.size u37 (((s).L.take i).map Xe.k)) := hown.below (alw (Below.refl _ _) _)
      have HL9 : Hid (∀ b, u37.ownBlock = some b → w9.heap.size ≤ b) := fun b hb => (hown.lt' hb).1
      obtain ⟨m9, hm9⟩ : ∃ m9, m9 = (((s).L.take i).map Xe.k).length := ⟨_, rfl⟩
      have hm64 : m9 ≤ 64 := by rw [hm9, List.length_map, List.length_take]; omega
      have HM9 : Hid _ := hm9
      have HBV : Hid _ := hbv
      clear r1 hx hi1 hown hbv hm9 hcs9
      go_wp2_with (at_builtin; refine wp_appG1 (K := KKy) rfl _ _ rfl w9.heap.size u37 (((s).L.take i).map Xe.k) x.k m9 HM9.out ⟨wv.heap.size, 0, none⟩ 1 rfl HO.out rfl (rdF_new wv x.k _ rfl) (by show (m9 + 1) * 16 ≤ _; omega) (by simp only [maxLen]; omega) (by have := HSZ.out; simp; omega) ?_; intro g7 c7 w7 hown7 hg7 hlie7; rw [HT.out] at hown7; have HO7 : Hid _ := hown7; have HG7 : Hid _ := hg7; clear hown7 hg7 hlie7)
      go_roundw
      case rel => exact ⟨i + 1, hlt9, by go_num, HO7.out, (alw HBV.out _).grown HG7.out (by have := HSZ.out; simp; omega) (fun j hj => HL9.out j hj)⟩
      case measure => simp [intOf]; omega
    · have hlti : ¬ (i : Int) < (n9 : Int) := by omega
      have htk : (s).L.take i = (s).L := List.take_of_length_le (by rw [← HN9.out]; omega)
      rw [htk] at hown
      have HEv : Hid _ := HEg9.out.below hbv
      have HOV : Hid _ := hown
      obtain ⟨n8, hn8⟩ : ∃ n8, n8 = ((s).L.map Xe.k).length := ⟨_, rfl⟩
      have hn864 : n8 ≤ 64 := by rw [hn8, List.length_map, ← HN9.out]; exact hn64
      obtain ⟨ab, cb, hvb, -, -, -, hrb⟩ := hown.val
      rw [← hn8] at hvb
      subst hvb
      have HN8 : Hid _ := hn8
      have HRB : Hid (RdG KKy wv ab ((s).L.map Xe.k)) := hrb
      have HBV : Hid _ := hbv
      clear htk hown hbv hcs9 hn8 hrb
      go_wp2_with (first
        | (go_at_call 18; refine Calls.mono (xbusy_t HEv.out.a) ?_; rintro e9 w5 ⟨va, rfl, howna, hb5⟩; obtain ⟨aa, ca, hva, -, -, -, hra⟩ := howna.val; rw [← HN8.out] at hva; subst hva; have HRA : Hid (RdG KKy w5 aa ((s).L.map Xe.k)) := hra; have HB5 : Hid _ := hb5; clear howna hb5 hra)
        | (go_at_call 15; refine Calls.mono (sameKeys_t aa ab n8 ca cb ((s).L.map Xe.k) HN8.out (by omega) HRA.out (RdG.below HRB.out HB5.out)) ?_; rintro e9 w7 ⟨rfl, hb7⟩; have HB7 : Hid _ := hb7; clear hb7))
      refine ⟨?_, ?_⟩
      · unfold WIx
        iterate 365 (apply Exists.intro)
        have h9 := HEv.out.below (below_next HB5.out HB7.out)
        exact ⟨⟨k + 1, V, v, s, by omega, by go_num, Nat.le_trans HSB.out (Nat.le_succ _), HSC.out, h9.less (fun b hb => .inl hb) (Nat.lt_of_lt_of_le (Nat.lt_of_le_of_lt (Nat.zero_le _) hlt0) (Nat.le_refl _)), HBg9.out.trans ((below_next HBV.out (below_next HB5.out HB7.out)).mono HBg9.out.size)⟩, rfl⟩
      · simp [Wmux, intOf]; omega
end Go.Proofs.YtiedgcanndgmoaaGreatDoor
namespace Go.Proofs.YtiedgcanndgmoaaGreatDoor
set_option linter.unusedVariables false
set_option linter.unusedSimpArgs false
open Go.RowKit Go.Maps
set_option maxRecDepth 100000 in
set_option maxHeartbeats 12800000 in
theorem ocase1b0 (w1 : World) (ao : Option Addr) (cap : Nat) (xs : List Oe) (P0 p ms mn pw mw q M A EP : Nat) (hM : 16 ≤ M ∧ M ≤ 1024) (hAk : A ≤ 4096) (hEP : 1 ≤ EP ∧ EP ≤ 281474976710655) (hl : xs.length ≤ 4398046511103) (HR : Hid (RdOe w1 ao xs)) (HC : Hid (w1.heap[P0]? = some (.cells #[.int .i64 (M : Int), .int .u64 (A : Int), .int .u64 1, .int .i64 0, .int .i64 1, .int .i64 1] 25 (0, 0))))
    (u0 u1 u3 u10 u13 u16 u17 u18 u19 u20 u21 u22 u23 u24 u25 u26 u27 u28 u29 u30 u31 u32 u33 u34 u35 u36 u37 u38 u39 u40 u41 u42 u43 u44 u45 u46 u47 u48 u49 u50 u51 u52 u53 u54 u55 u56 u57 u58 u59 u60 u61 u62 u63 u64 u65 u66 u67 u68 u69 u70 u71 u72 u73 u74 u75 u76 u77 u78 u79 u80 u81 u82 u83 u84 u85 u86 u87 u88 u89 u90 u91 u92 u93 u94 u95 u96 u97 u98 u99 u100 u101 u102 u103 u104 u105 u106 u107 u108 u109 u110 u111 u112 u113 u114 u115 u116 u117 u118 u119 u120 u121 u122 u123 u124 u125 u126 u127 u128 u129 u130 u131 u132 u133 u134 u135 u136 u137 u138 u139 u140 u141 u142 u143 u144 u145 u146 u147 u148 u149 u150 u151 u152 u153 u154 u155 u156 u157 u158 u159 u160 u161 u162 u163 u164 u165 u166 u167 u168 u169 u170 u171 u172 u173 u174 u175 u176 u177 u178 u179 u180 u181 u182 u183 u184 u185 u186 u187 u188 u189 u190 u191 u192 u193 u194 u195 u196 u197 u198 u199 u200 u201 u202 u203 u204 u205 u206 u207 u208 u209 u210 u211 u212 u213 u214 u215 u216 u217 u218 u219 u220 u221 u222 u223 u224 u225 u226 u227 u228 u229 u230 u231 u232 u233 u234 u235 u236 u237 u238 u239 u240 u241 u242 u243 u244 u245 u246 u247 u248 u249 u250 u251 u252 u253 u254 u255 u256 u257 u258 u259 u260 u261 u262 u263 u264 u265 u266 u267 u268 u269 u270 u271 u272 u273 u274 u275 u276 u277 u278 u279 u280 u281 u282 u283 u284 u285 u286 u287 u288 u289 u290 u291 u292 u293 u294 u295 u296 u297 u298 u299 u300 u301 u302 u303 u304 u305 u306 u307 u308 u309 u310 u311 u312 u313 u314 u315 u316 u317 u318 u319 u320 u321 u322 u323 u324 u325 u326 u327 u328 u329 u330 u331 u332 u333 u334 u335 u336 u337 u338 u339 u340 u341 u342 u343 u344 u345 u346 u347 u348 u349 u350 u351 u352 u353 u354 u355 u356 u357 u358 u359 u360 u361 u362 u363 u364 u365 u366 u367 u368 u369 u370 u371 u372 u373 u374 : Value) (wr : World) (k : Nat) (V : Nat → Nat → Value) (v : Value) (s : Xs) (hk : k ≤ xs.length) (HSB : Hid (s.beg ≤ k)) (HSC : Hid (s.mtu = M ∧ s.ack = A ∧ s.ep = EP)) (HE : Hid (Exb wr (fun b => b < w1.heap.size) p ms mn pw mw V q v s s)) (HB : Hid (Below w1.heap.size w1 wr)) (hlt0 : 0 < w1.heap.size) (hlt : k < xs.length) (hkd : xs[k].kd = 1) (hnn : 1 ≤ xs[k].n ∧ xs[k].n ≤ 281474976710655) (hky : goodK xs[k].k) (hb0 : xs[k].bn = 0) (Q0 : Exit → Act → World → Prop) :
    Code.wp Tryz.prog (TBx Tryz.f3.body) (Exit.then (fun a' w'' => WIx w1 ao cap xs P0 p ms mn pw mw q M A EP a' w'' ∧ Wmux xs.length a' w'' < Wmux xs.length ⟨#[u0, u1, .int .u64 (EP : Int), u3, .slice ao xs.length cap, undef, undef, undef, undef, undef, u10, .pointer (some ⟨P0, 0, none⟩), .pointer (some ⟨p, 0, none⟩), u13, .pointer (some ⟨q, 0, none⟩), .int .i64 k, u16, u17, u18, u19, u20, u21, u22, u23, u24, u25, u26, u27, u28, u29, u30, u31, u32, u33, u34, u35, u36, u37, u38, u39, u40, u41, u42, u43, u44, u45, u46, u47, u48, u49, u50, u51, u52, u53, u54, u55, u56, u57, u58, u59, u60, u61, u62, u63, u64, u65, u66, u67, u68, u69, u70, u71, u72, u73, u74, u75, u76, u77, u78, u79, u80, u81, u82, u83, u84, u85, u86, u87, u88, u89, u90, u91, u92, u93, u94, u95, u96, u97, u98, u99, u100, u101, u102, u103, u104, u105, u106, u107, u108, u109, u110, u111, u112, u113, u114, u115, u116, u117, u118, u119, u120, u121, u122, u123, u124, u125, u126, u127, u128, u129, u130, u131, u132, u133, u134, u135, u136, u137, u138, u139, u140, u141, u142, u143, u144, u145, u146, u147, u148, u149, u150, u151, u152, u153, u154, u155, u156, u157, u158, u159, u160, u161, u162, u163, u164, u165, u166, u167, u168, u169, u170, u171, u172, u173, u174, u175, u176, u177, u178, u179, u180, u181, u182, u183, u184, u185, u186, u187, u188, u189, u190, u191, u192, u193, u194, u195, u196, u197, u198, u199, u200, u201, u202, u203, u204, u205, u206, u207, u208, u209, u210, u211, u212, u213, u214, u215, u216, u217, u218, u219, u220, u221, u222, u223, u224, u225, u226, u227, u228, u229, u230, u231, u232, u233, u234, u235, u236, u237, u238, u239, u240, u241, u242, u243, u244, u245, u246, u247, u248, u249, u250, u251, u252, u253, u254, u255, u256, u257, u258, u259, u260, u261, u262, u263, u264, u265, u266, u267, u268, u269, u270, u271, u272, u273, u274, u275, u276, u277, u278, u279, u280, u281, u282, u283, u284, u285, u286, u287, u288, u289, u290, u291, u292, u293, u294, u295, u296, u297, u298, u299, u300, u301, u302, u303, u304, u305, u306, u307, u308, u309, u310, u311, u312, u313, u314, u315, u316, u317, u318, u319, u320, u321, u322, u323, u324, u325, u326, u327, u328, u329, u330, u331, u332, u333, u334, u335, u336, u337, u338, u339, u340, u341, u342, u343, u344, u345, u346, u347, u348, u349, u350, u351, u352, u353, u354, u355, u356, u357, u358, u359, u360, u361, u362, u363, u364, u365, u366, u367, u368, u369, u370, u371, u372, u373, u374], []⟩ wr) Q0) ⟨#[u0, u1, .int .u64 (EP : Int), u3, .slice ao xs.length cap, undef, undef, undef, undef, undef, u10, .pointer (some ⟨P0, 0, none⟩), .pointer (some ⟨p, 0, none⟩), u13, .pointer (some ⟨q, 0, none⟩), .int .i64 k, u16, u17, u18, u19, u20, u21, u22, u23, u24, u25, u26, u27, u28, u29, u30, u31, u32, u33, u34, u35, u36, u37, u38, u39, u40, u41, u42, u43, u44, u45, u46, u47, u48, u49, u50, u51, u52, u53, u54, u55, u56, u57, u58, u59, u60, u61, u62, u63, u64, u65, u66, u67, u68, u69, u70, u71, u72, u73, u74, u75, u76, u77, u78, u79, u80, u81, u82, u83, u84, u85, u86, u87, u88, u89, u90, u91, u92, u93, u94, u95, u96, u97, u98, u99, u100, u101, u102, u103, u104, u105, u106, u107, u108, u109, u110, u111, u112, u113, u114, u115, u116, u117, u118, u119, u120, u121, u122, u123, u124, u125, u126, u127, u128, u129, u130, u131, u132, u133, u134, u135, u136, u137, u138, u139, u140, u141, u142, u143, u144, u145, u146, u147, u148, u149, u150, u151, u152, u153, u154, u155, u156, u157, u158, u159, u160, u161, u162, u163, u164, u165, u166, u167, u168, u169, u170, u171, u172, u173, u174, u175, u176, u177, u178, u179, u180, u181, u182, u183, u184, u185, u186, u187, u188, u189, u190, u191, u192, u193, u194, u195, u196, u197, u198, u199, u200, u201, u202, u203, u204, u205, u206, u207, u208, u209, u210, u211, u212, u213, u214, u215, u216, u217, u218, u219, u220, u221, u222, u223, u224, u225, u226, u227, u228, u229, u230, u231, u232, u233, u234, u235, u236, u237, u238, u239, u240, u241, u242, u243, u244, u245, u246, u247, u248, u249, u250, u251, u252, u253, u254, u255, u256, u257, u258, u259, u260, u261, u262, u263, u264, u265, u266, u267, u268, u269, u270, u271, u272, u273, u274, u275, u276, u277, u278, u279, u280, u281, u282, u283, u284, u285, u286, u287, u288, u289, u290, u291, u292, u293, u294, u295, u296, u297, u298, u299, u300, u301, u302, u303, u304, u305, u306, u307, u308, u309, u310, u311, u312, u313, u314, u315, u316, u317, u318, u319, u320, u321, u322, u323, u324, u325, u326, u327, u328, u329, u330, u331, u332, u333, u334, u335, u336, u337, u338, u339, u340, u341, u342, u343, u344, u345, u346, u347, u348, u349, u350, u351, u352, u353, u354, u355, u356, u357, u358, u359, u360, u361, u362, u363, u364, u365, u366, u367, u368, u369, u370, u371, u372, u373, u374], []⟩ wr := by
  conv => arg 2; whnf
  obtain ⟨b, o, rfl, hok, hrg⟩ := HR.out k hlt
  obtain ⟨y, hy⟩ : ∃ y, y = xs[k] := ⟨_, rfl⟩
  rw [← hy] at hok hrg hkd hnn hky hb0
  have HOK : Hid (OeOk w1 y) := hok
  have hk0 : (0 : Int) ≤ (k : Int) := by omega
  have hkI : (k : Int) < (xs.length : Int) := by omega
  have hkw : IntKind.i64.wrap ((k : Int) + 1) = ((k + 1 : Nat) : Int) := by rw [IntKind.wrap_i64]; omega
  have hLD := rangeAt_below hrg HB.out
  obtain ⟨wa, hwa⟩ : ∃ wa, wa = wr.alloc (.cells y.c tOe) := ⟨_, rfl⟩
  have hba : Below wr.heap.size wr wa := by rw [hwa]; exact alw (Below.refl _ _) _
  have hbxa : wa.heap[wr.heap.size]? = some (.cells y.c tOe (0, 0)) := by rw [hwa]; exact heap_alloc_new wr _
  have hoc := oeCells hbxa
  have hHa : Exb wa (fun b => b < w1.heap.size ∨ b = wr.heap.size) p ms mn pw mw V q v s s := by rw [hwa]; exact HE.out.box _
  have HEa : Hid _ := hHa
  have HBa : Hid (Below w1.heap.size w1 wa) := below_next HB.out hba
  have HXa : Hid _ := hbxa
  have HWA : Hid (wa = _) := hwa
  have HSZa : Hid (w1.heap.size ≤ wr.heap.size ∧ wr.heap.size < wa.heap.size) := ⟨HB.out.size, (Array.getElem?_eq_some_iff.1 hbxa).1⟩
  rw [hwa] at hoc
  clear hy hok hrg hwa hba hbxa hHa
  have k1 : (y.kd == 1) = true := by simp [hkd]
  clear hkd
  have hoca : ∀ u, Below wa.heap.size wa u → _ := fun u hu => oeCells ((hu.block _ HSZa.out.2).trans HXa.out)
  have HBG : Hid (∀ u, Below wa.heap.size wa u → ∀ (ao : Option Addr) (c : Nat), Calls Tryz.prog 8 #[.pointer (some ⟨p, 0, none⟩), .int .u64 (y.n : Int), fv y.k, .slice ao y.bn c, .int .u64 (y.now : Int)] u fun e w' => e = .returned (.tuple #[.slice none 0 0, .int .i64 1]) ∧ Below u.heap.size u w') := fun u hu ao c => by
    have h9 := HEa.out.a.below hu
    exact xbegin_nil h9 y.n y.k ao y.bn c y.now hnn hky hb0
  have H_hnn : Hid _ := hnn
  have H_hky : Hid _ := hky
  have H_hb0 : Hid _ := hb0
  have HGD : Hid (∀ u, Calls Tryz.prog 11 #[fv y.k] u fun e w' => e = .returned (.bool true) ∧ Below u.heap.size u w') := fun u => by
    have h9 := rgood_t y.k u
    rw [show decide (0 ≤ y.k.1 ∧ y.k.1 < 8 ∧ y.k.2 ≤ mxX) = true from decide_eq_true hky] at h9
    exact h9
  clear hnn hky hb0
  go_upto_region 14 with (first
    | (refine wpList_load_g (by rfl) tOe _ rfl b (o + k * 15) (by rfl) y.c.toList _ hLD Tryz.underlying43 rfl infoOe ?_))
  rw [← HWA.out] at hoc ⊢
  clear hLD
  refine wp_region_noPanic ?_
  refine wp_region_held_drew (S := (fun u => Below wa.heap.size wa u)) (by kernel_rfl) (by first | exact (Below.refl _ _).drew | exact HB3.out | exact HB4.out | assumption) (fun hHeld => ?_)
  refine tz (i := 0) 78 rfl rfl hHeld ?_
  simp only [pS]
  refine tz (i := 1) 79 rfl rfl hHeld ?_
  simp only [pS]
  refine tz (i := 2) 80 rfl rfl hHeld ?_
  simp only [pS]
  refine tz (i := 3) 81 rfl rfl hHeld ?_
  simp only [pS]
  refine tz (i := 4) 82 rfl rfl hHeld ?_
  simp only [pS]
  refine tz (i := 5) 83 rfl rfl hHeld ?_
  simp only [pS]
  refine tz (i := 6) 84 rfl rfl hHeld ?_
  simp only [pS]
  refine tz (i := 8) 86 rfl rfl hHeld ?_
  simp only [pS]
  refine tz (i := 9) 87 rfl rfl hHeld ?_
  simp only [pS]
  refine run_at (i := 7) rfl (by kernel_rfl) (by rfl) (fun K hK => ?_)
  simp only [List.getElem_toArray, List.getElem_cons_zero, List.getElem_cons_succ]
  first | (go_at_call 8; refine Calls.mono (HBG.out w3 HB3.out a3 c3) ?_; rintro e9 w4 ⟨rfl, hb4⟩; have HB4 : Hid (Below wa.heap.size wa w4) := below_next HB3.out hb4; clear hb4) | (refine wpo_appN _ _ rfl wa.heap.size (.slice none 0 0) [] y.xs y.ba y.bc rfl (World.ownsRow_nil _ _ _ _) (by rw [← HOK.out.bn]; rfl) (OeOk.below HOK.out HBa.out.drew).br HOK.out.bz (by have h7 := HOK.out.bl; have h8 := HOK.out.bb; have h9 := HOK.out.bn; simp only [List.length_nil]; omega) (by exact Nat.le_refl _) ?_; intro v3 w3 hown3 hg3; rw [List.nil_append] at hown3; obtain ⟨a3, c3, hv3, hlc3, -, -, hr3, -⟩ := hown3.val; rw [← HOK.out.bn] at hv3 hlc3; subst hv3; have HB3 : Hid (Below wa.heap.size wa w3) := (Below.refl _ _).drew.grown hg3 (Nat.le_refl _) (fun j hj => by cases hj); have HR3 : Hid (Rd w3 a3 y.xs) := hr3; have HLC : Hid (y.bn ≤ c3) := hlc3; clear hown3 hg3 hr3 hlc3)
  refine hK.out _ _ (by first | exact (Below.refl _ _).drew | exact HB3.out | exact HB4.out | assumption) ?_
  clear hK K
  intro hHeld2
  clear hHeld
  have hHeld := hHeld2
  clear hHeld2
  try simp only [pS]
  refine run_at (i := 10) rfl (by kernel_rfl) (by rfl) (fun K hK => ?_)
  simp only [List.getElem_toArray, List.getElem_cons_zero, List.getElem_cons_succ]
  go_simp
  first | (go_at_call 8; refine Calls.mono (HBG.out w3 HB3.out a3 c3) ?_; rintro e9 w4 ⟨rfl, hb4⟩; have HB4 : Hid (Below wa.heap.size wa w4) := below_next HB3.out hb4; clear hb4) | (refine wpo_appN _ _ rfl wa.heap.size (.slice none 0 0) [] y.xs y.ba y.bc rfl (World.ownsRow_nil _ _ _ _) (by rw [← HOK.out.bn]; rfl) (OeOk.below HOK.out HBa.out.drew).br HOK.out.bz (by have h7 := HOK.out.bl; have h8 := HOK.out.bb; have h9 := HOK.out.bn; simp only [List.length_nil]; omega) (by exact Nat.le_refl _) ?_; intro v3 w3 hown3 hg3; rw [List.nil_append] at hown3; obtain ⟨a3, c3, hv3, hlc3, -, -, hr3, -⟩ := hown3.val; rw [← HOK.out.bn] at hv3 hlc3; subst hv3; have HB3 : Hid (Below wa.heap.size wa w3) := (Below.refl _ _).drew.grown hg3 (Nat.le_refl _) (fun j hj => by cases hj); have HR3 : Hid (Rd w3 a3 y.xs) := hr3; have HLC : Hid (y.bn ≤ c3) := hlc3; clear hown3 hg3 hr3 hlc3)
  go_wp2_with fail
  refine hK.out _ _ (by first | exact (Below.refl _ _).drew | exact HB3.out | exact HB4.out | assumption) ?_
  clear hK K
  intro hHeld2
  clear hHeld
  have hHeld := hHeld2
  clear hHeld2
  try simp only [pS]
  refine tz (i := 11) 77 rfl rfl hHeld ?_
  simp only [pS]
  refine tz (i := 12) 89 rfl rfl hHeld ?_
  simp only [pS]
  refine tz (i := 13) 90 rfl rfl hHeld ?_
  simp only [pS]
  refine tz (i := 14) 17 rfl rfl hHeld ?_
  simp only [pS]
  refine tz (i := 15) 18 rfl rfl hHeld ?_
  simp only [pS]
  refine wpAnyH_done (by kernel_rfl) ?_ _
  refine NoPanic.normal ?_
  clear hHeld hoca
  have HE4 : Hid (Exb w4 (fun b => b < w1.heap.size ∨ b = wr.heap.size) p ms mn pw mw V q v s s) := HEa.out.below HB4.out
  have HX4 : Hid (w4.heap[wr.heap.size]? = _) := (HB4.out.block _ HSZa.out.2).trans HXa.out
  have HBw4 : Hid (Below w1.heap.size w1 w4) := below_next HBa.out HB4.out
  have hoc1 := oeCells HX4.out
  have HOF1 : Hid _ := bof_any HE4.out.b y.k
  go_wp2_with fail
  refine Calls.mono HOF1.out ?_
  rintro e9 wf1 ⟨⟨x1, bb1, rfl⟩, hbf1⟩
  obtain ⟨wg1, hwg1⟩ : ∃ u, u = wf1.alloc (.cells #[.int .u64 (x1.n : Int), .int .i64 x1.k.1, .int .u64 (x1.k.2 : Int), .int .u64 (x1.ov : Int)] tBs) := ⟨_, rfl⟩
  have hbg1 : Below w4.heap.size w4 wg1 := by rw [hwg1]; exact alw hbf1 _
  have HEg1 : Hid _ := HE4.out.below hbg1
  have HXg1 : Hid (wg1.heap[wr.heap.size]? = _) := (hbg1.block _ (Array.getElem?_eq_some_iff.1 HX4.out).1).trans HX4.out
  have HBg1 : Hid (Below w1.heap.size w1 wg1) := below_next HBw4.out hbg1
  have HBl1 : Hid _ := hbg1
  have HWg1 : Hid (wg1 = _) := hwg1
  clear hbf1 hbg1 hwg1 hoc1
  have hocg1 := oeCells HXg1.out
  rw [HWg1.out] at hocg1
  have HOF2 : Hid _ := bnum_any HEg1.out.b y.n
  go_wp2_with fail
  rw [← HWg1.out] at hocg1 ⊢
  clear hocg1
  refine Calls.mono HOF2.out ?_
  rintro e9 wf2 ⟨⟨x2, bb2, rfl⟩, hbf2⟩
  obtain ⟨wg2, hwg2⟩ : ∃ u, u = wf2.alloc (.cells #[.int .u64 (x2.n : Int), .int .i64 x2.k.1, .int .u64 (x2.k.2 : Int), .int .u64 (x2.ov : Int)] tBs) := ⟨_, rfl⟩
  have hbg2 : Below wg1.heap.size wg1 wg2 := by rw [hwg2]; exact alw hbf2 _
  have HEg2 : Hid _ := HEg1.out.below hbg2
  have HXg2 : Hid (wg2.heap[wr.heap.size]? = _) := (hbg2.block _ (Array.getElem?_eq_some_iff.1 HXg1.out).1).trans HXg1.out
  have HBg2 : Hid (Below w1.heap.size w1 wg2) := below_next HBg1.out hbg2
  have HBl2 : Hid _ := hbg2
  have HWg2 : Hid (wg2 = _) := hwg2
  clear hbf2 hbg2 hwg2
  have hocg2 := oeCells HXg2.out
  rw [HWg2.out] at hocg2
  have zn0 : (0 : Int) < (y.n : Int) := by have := H_hnn.out; omega
  have zb0 : ¬ (0 : Int) < (y.bn : Int) := by have := H_hb0.out; omega
  go_upto_region 17 with (fail)
  iterate 27 (first | go_skip | go_guarded | go_step)
  rw [show decide ((y.n : Int) < 281474976710656) = true from decide_eq_true (by have := H_hnn.out; omega)]
  go_wp2_with fail
  rw [← HWg2.out] at hocg2 ⊢
  clear hocg2
  refine Calls.mono (HGD.out _) ?_
  rintro e9 w9 ⟨rfl, hb9⟩
  have HEg9 : Hid _ := HEg2.out.below hb9
  have HXg9 : Hid (w9.heap[wr.heap.size]? = _) := (hb9.block _ (Array.getElem?_eq_some_iff.1 HXg2.out).1).trans HXg2.out
  have HBg9 : Hid (Below w1.heap.size w1 w9) := below_next HBg2.out hb9
  have hocg9 := oeCells HXg9.out
  clear hb9
  go_upto_region 58 with (fail)
  clear hocg9
  obtain ⟨n9, hn9⟩ : ∃ n9, n9 = (s).L.length := ⟨_, rfl⟩
  have hn64 : n9 ≤ 64 := by rw [hn9]; exact HEg9.out.a.inv.len
  obtain ⟨a9, cp9, hv9, -, -, -, hrd9⟩ := OwnG.val HEg9.out.b.row
  have hv9' : v = .slice a9 n9 cp9 := by rw [hn9]; exact hv9
  have hcs9 : ∀ u, Below w9.heap.size w9 u → u.cell? ⟨q, 0, none⟩ = some (.slice a9 n9 cp9) := fun u hu => by rw [← hv9']; exact (HEg9.out.b.below hu).cell 0
  have hc9a := hcs9 w9 (Below.refl _ _)
  have HN9 : Hid _ := hn9
  have HR9 : Hid (RdG KBs w9 a9 (s).L) := hrd9
  clear hn9 hv9 hv9' hrd9
  go_wp2
  go_loopw [37, 38] (fun u j wv => ∃ i : Nat, i ≤ n9 ∧ j = .int .i64 (i : Int) ∧ OwnG KKy wv w9.heap.size u (((s).L.take i).map Xe.k) ∧ Below w9.heap.size w9 wv) (fun _ j _ => n9 - (intOf j).toNat)
  case atStart => exact ⟨0, Nat.zero_le _, rfl, World.ownsRow_nil _ _ _ _, Below.refl _ _⟩
  case round =>
    rename World => wv
    obtain ⟨i, hin, rfl, hown, hbv⟩ := hrel
    have hiw : IntKind.i64.wrap ((i : Int) + 1) = ((i + 1 : Nat) : Int) := by rw [IntKind.wrap_i64]; omega
    have hc9 := hcs9 wv hbv
    by_cases hlt9 : i < n9
    · have hlti : (i : Int) < (n9 : Int) := by omega
      have hi0 : (0 : Int) ≤ (i : Int) := by omega
      have hi1 : i < (s).L.length := by rw [← HN9.out]; exact hlt9
      obtain ⟨b9, o9, rfl, r1, -⟩ := RdG.below HR9.out hbv i hi1
      obtain ⟨x, hx⟩ : ∃ x : Xe, x = (s).L[i] := ⟨_, rfl⟩
      have g1 := r1 1 (.int .i64 x.k.1) (by rw [hx]; rfl)
      have g2 : wv.cell? ⟨b9, o9 + i * 4 + 1 + 1, none⟩ = some (.int .u64 (x.k.2 : Int)) := r1 2 (.int .u64 (x.k.2 : Int)) (by rw [hx]; rfl)
      have HT : Hid (((s).L.take i).map Xe.k ++ [x.k] = ((s).L.take (i + 1)).map Xe.k) := by unfold Hid; rw [List.take_succ_eq_append_getElem hi1, ← hx]; simp
      have HSZ : Hid (w9.heap.size ≤ wv.heap.size) := hbv.size
      have HO : Hid (OwnG KKy (wv.alloc (.cells #[.int .i64 x.k.1, .int .u64 (x.k.2 : Int)] tFk)) w9.heap.size u37 (((s).L.take i).map Xe.k)) := hown.below (alw (Below.refl _ _) _)
      have HL9 : Hid (∀ b, u37.ownBlock = some b → w9.heap.size ≤ b) := fun b hb => (hown.lt' hb).1
      obtain ⟨m9, hm9⟩ : ∃ m9, m9 = (((s).L.take i).map Xe.k).length := ⟨_, rfl⟩
      have hm64 : m9 ≤ 64 := by rw [hm9, List.length_map, List.length_take]; omega
      have HM9 : Hid _ := hm9
      have HBV : Hid _ := hbv
      clear r1 hx hi1 hown hbv hm9 hcs9
      go_wp2_with (at_builtin; refine wp_appG1 (K := KKy) rfl _ _ rfl w9.heap.size u37 (((s).L.take i).map Xe.k) x.k m9 HM9.out ⟨wv.heap.size, 0, none⟩ 1 rfl HO.out rfl (rdF_new wv x.k _ rfl) (by show (m9 + 1) * 16 ≤ _; omega) (by simp only [maxLen]; omega) (by have := HSZ.out; simp; omega) ?_; intro g7 c7 w7 hown7 hg7 hlie7; rw [HT.out] at hown7; have HO7 : Hid _ := hown7; have HG7 : Hid _ := hg7; clear hown7 hg7 hlie7)
      go_roundw
      case rel => exact ⟨i + 1, hlt9, by go_num, HO7.out, (alw HBV.out _).grown HG7.out (by have := HSZ.out; simp; omega) (fun j hj => HL9.out j hj)⟩
      case measure => simp [intOf]; omega
    · have hlti : ¬ (i : Int) < (n9 : Int) := by omega
      have htk : (s).L.take i = (s).L := List.take_of_length_le (by rw [← HN9.out]; omega)
      rw [htk] at hown
      have HEv : Hid _ := HEg9.out.below hbv
      have HOV : Hid _ := hown
      obtain ⟨n8, hn8⟩ : ∃ n8, n8 = ((s).L.map Xe.k).length := ⟨_, rfl⟩
      have hn864 : n8 ≤ 64 := by rw [hn8, List.length_map, ← HN9.out]; exact hn64
      obtain ⟨ab, cb, hvb, -, -, -, hrb⟩ := hown.val
      rw [← hn8] at hvb
      subst hvb
      have HN8 : Hid _ := hn8
      have HRB : Hid (RdG KKy wv ab ((s).L.map Xe.k)) := hrb
      have HBV : Hid _ := hbv
      clear htk hown hbv hcs9 hn8 hrb
      go_wp2_with (first
        | (go_at_call 18; refine Calls.mono (xbusy_t HEv.out.a) ?_; rintro e9 w5 ⟨va, rfl, howna, hb5⟩; obtain ⟨aa, ca, hva, -, -, -, hra⟩ := howna.val; rw [← HN8.out] at hva; subst hva; have HRA : Hid (RdG KKy w5 aa ((s).L.map Xe.k)) := hra; have HB5 : Hid _ := hb5; clear howna hb5 hra)
        | (go_at_call 15; refine Calls.mono (sameKeys_t aa ab n8 ca cb ((s).L.map Xe.k) HN8.out (by omega) HRA.out (RdG.below HRB.out HB5.out)) ?_; rintro e9 w7 ⟨rfl, hb7⟩; have HB7 : Hid _ := hb7; clear hb7))
      refine ⟨?_, ?_⟩
      · unfold WIx
        iterate 365 (apply Exists.intro)
        have h9 := HEv.out.below (below_next HB5.out HB7.out)
        exact ⟨⟨k + 1, V, v, s, by omega, by go_num, Nat.le_trans HSB.out (Nat.le_succ _), HSC.out, h9.less (fun b hb => .inl hb) (Nat.lt_of_lt_of_le (Nat.lt_of_le_of_lt (Nat.zero_le _) hlt0) (Nat.le_refl _)), HBg9.out.trans ((below_next HBV.out (below_next HB5.out HB7.out)).mono HBg9.out.size)⟩, rfl⟩
      · simp [Wmux, intOf]; omega
end Go.Proofs.YtiedgcanndgmoaaGreatDoor
namespace Go.Proofs.YtiedgcanndgmoaaGreatDoor
set_option linter.unusedVariables false
set_option linter.unusedSimpArgs false
open Go.RowKit Go.Maps
set_option maxRecDepth 100000 in
set_option maxHeartbeats 12800000 in
theorem ocase1b1 (w1 : World) (ao : Option Addr) (cap : Nat) (xs : List Oe) (P0 p ms mn pw mw q M A EP : Nat) (hM : 16 ≤ M ∧ M ≤ 1024) (hAk : A ≤ 4096) (hEP : 1 ≤ EP ∧ EP ≤ 281474976710655) (hl : xs.length ≤ 4398046511103) (HR : Hid (RdOe w1 ao xs)) (HC : Hid (w1.heap[P0]? = some (.cells #[.int .i64 (M : Int), .int .u64 (A : Int), .int .u64 1, .int .i64 0, .int .i64 1, .int .i64 1] 25 (0, 0))))
    (u0 u1 u3 u10 u13 u16 u17 u18 u19 u20 u21 u22 u23 u24 u25 u26 u27 u28 u29 u30 u31 u32 u33 u34 u35 u36 u37 u38 u39 u40 u41 u42 u43 u44 u45 u46 u47 u48 u49 u50 u51 u52 u53 u54 u55 u56 u57 u58 u59 u60 u61 u62 u63 u64 u65 u66 u67 u68 u69 u70 u71 u72 u73 u74 u75 u76 u77 u78 u79 u80 u81 u82 u83 u84 u85 u86 u87 u88 u89 u90 u91 u92 u93 u94 u95 u96 u97 u98 u99 u100 u101 u102 u103 u104 u105 u106 u107 u108 u109 u110 u111 u112 u113 u114 u115 u116 u117 u118 u119 u120 u121 u122 u123 u124 u125 u126 u127 u128 u129 u130 u131 u132 u133 u134 u135 u136 u137 u138 u139 u140 u141 u142 u143 u144 u145 u146 u147 u148 u149 u150 u151 u152 u153 u154 u155 u156 u157 u158 u159 u160 u161 u162 u163 u164 u165 u166 u167 u168 u169 u170 u171 u172 u173 u174 u175 u176 u177 u178 u179 u180 u181 u182 u183 u184 u185 u186 u187 u188 u189 u190 u191 u192 u193 u194 u195 u196 u197 u198 u199 u200 u201 u202 u203 u204 u205 u206 u207 u208 u209 u210 u211 u212 u213 u214 u215 u216 u217 u218 u219 u220 u221 u222 u223 u224 u225 u226 u227 u228 u229 u230 u231 u232 u233 u234 u235 u236 u237 u238 u239 u240 u241 u242 u243 u244 u245 u246 u247 u248 u249 u250 u251 u252 u253 u254 u255 u256 u257 u258 u259 u260 u261 u262 u263 u264 u265 u266 u267 u268 u269 u270 u271 u272 u273 u274 u275 u276 u277 u278 u279 u280 u281 u282 u283 u284 u285 u286 u287 u288 u289 u290 u291 u292 u293 u294 u295 u296 u297 u298 u299 u300 u301 u302 u303 u304 u305 u306 u307 u308 u309 u310 u311 u312 u313 u314 u315 u316 u317 u318 u319 u320 u321 u322 u323 u324 u325 u326 u327 u328 u329 u330 u331 u332 u333 u334 u335 u336 u337 u338 u339 u340 u341 u342 u343 u344 u345 u346 u347 u348 u349 u350 u351 u352 u353 u354 u355 u356 u357 u358 u359 u360 u361 u362 u363 u364 u365 u366 u367 u368 u369 u370 u371 u372 u373 u374 : Value) (wr : World) (k : Nat) (V : Nat → Nat → Value) (v : Value) (s : Xs) (hk : k ≤ xs.length) (HSB : Hid (s.beg ≤ k)) (HSC : Hid (s.mtu = M ∧ s.ack = A ∧ s.ep = EP)) (HE : Hid (Exb wr (fun b => b < w1.heap.size) p ms mn pw mw V q v s s)) (HB : Hid (Below w1.heap.size w1 wr)) (hlt0 : 0 < w1.heap.size) (hlt : k < xs.length) (hkd : xs[k].kd = 1) (hnn : 1 ≤ xs[k].n ∧ xs[k].n ≤ 281474976710655) (hky : goodK xs[k].k) (hb1 : 1024 < xs[k].bn) (Q0 : Exit → Act → World → Prop) :
    Code.wp Tryz.prog (TBx Tryz.f3.body) (Exit.then (fun a' w'' => WIx w1 ao cap xs P0 p ms mn pw mw q M A EP a' w'' ∧ Wmux xs.length a' w'' < Wmux xs.length ⟨#[u0, u1, .int .u64 (EP : Int), u3, .slice ao xs.length cap, undef, undef, undef, undef, undef, u10, .pointer (some ⟨P0, 0, none⟩), .pointer (some ⟨p, 0, none⟩), u13, .pointer (some ⟨q, 0, none⟩), .int .i64 k, u16, u17, u18, u19, u20, u21, u22, u23, u24, u25, u26, u27, u28, u29, u30, u31, u32, u33, u34, u35, u36, u37, u38, u39, u40, u41, u42, u43, u44, u45, u46, u47, u48, u49, u50, u51, u52, u53, u54, u55, u56, u57, u58, u59, u60, u61, u62, u63, u64, u65, u66, u67, u68, u69, u70, u71, u72, u73, u74, u75, u76, u77, u78, u79, u80, u81, u82, u83, u84, u85, u86, u87, u88, u89, u90, u91, u92, u93, u94, u95, u96, u97, u98, u99, u100, u101, u102, u103, u104, u105, u106, u107, u108, u109, u110, u111, u112, u113, u114, u115, u116, u117, u118, u119, u120, u121, u122, u123, u124, u125, u126, u127, u128, u129, u130, u131, u132, u133, u134, u135, u136, u137, u138, u139, u140, u141, u142, u143, u144, u145, u146, u147, u148, u149, u150, u151, u152, u153, u154, u155, u156, u157, u158, u159, u160, u161, u162, u163, u164, u165, u166, u167, u168, u169, u170, u171, u172, u173, u174, u175, u176, u177, u178, u179, u180, u181, u182, u183, u184, u185, u186, u187, u188, u189, u190, u191, u192, u193, u194, u195, u196, u197, u198, u199, u200, u201, u202, u203, u204, u205, u206, u207, u208, u209, u210, u211, u212, u213, u214, u215, u216, u217, u218, u219, u220, u221, u222, u223, u224, u225, u226, u227, u228, u229, u230, u231, u232, u233, u234, u235, u236, u237, u238, u239, u240, u241, u242, u243, u244, u245, u246, u247, u248, u249, u250, u251, u252, u253, u254, u255, u256, u257, u258, u259, u260, u261, u262, u263, u264, u265, u266, u267, u268, u269, u270, u271, u272, u273, u274, u275, u276, u277, u278, u279, u280, u281, u282, u283, u284, u285, u286, u287, u288, u289, u290, u291, u292, u293, u294, u295, u296, u297, u298, u299, u300, u301, u302, u303, u304, u305, u306, u307, u308, u309, u310, u311, u312, u313, u314, u315, u316, u317, u318, u319, u320, u321, u322, u323, u324, u325, u326, u327, u328, u329, u330, u331, u332, u333, u334, u335, u336, u337, u338, u339, u340, u341, u342, u343, u344, u345, u346, u347, u348, u349, u350, u351, u352, u353, u354, u355, u356, u357, u358, u359, u360, u361, u362, u363, u364, u365, u366, u367, u368, u369, u370, u371, u372, u373, u374], []⟩ wr) Q0) ⟨#[u0, u1, .int .u64 (EP : Int), u3, .slice ao xs.length cap, undef, undef, undef, undef, undef, u10, .pointer (some ⟨P0, 0, none⟩), .pointer (some ⟨p, 0, none⟩), u13, .pointer (some ⟨q, 0, none⟩), .int .i64 k, u16, u17, u18, u19, u20, u21, u22, u23, u24, u25, u26, u27, u28, u29, u30, u31, u32, u33, u34, u35, u36, u37, u38, u39, u40, u41, u42, u43, u44, u45, u46, u47, u48, u49, u50, u51, u52, u53, u54, u55, u56, u57, u58, u59, u60, u61, u62, u63, u64, u65, u66, u67, u68, u69, u70, u71, u72, u73, u74, u75, u76, u77, u78, u79, u80, u81, u82, u83, u84, u85, u86, u87, u88, u89, u90, u91, u92, u93, u94, u95, u96, u97, u98, u99, u100, u101, u102, u103, u104, u105, u106, u107, u108, u109, u110, u111, u112, u113, u114, u115, u116, u117, u118, u119, u120, u121, u122, u123, u124, u125, u126, u127, u128, u129, u130, u131, u132, u133, u134, u135, u136, u137, u138, u139, u140, u141, u142, u143, u144, u145, u146, u147, u148, u149, u150, u151, u152, u153, u154, u155, u156, u157, u158, u159, u160, u161, u162, u163, u164, u165, u166, u167, u168, u169, u170, u171, u172, u173, u174, u175, u176, u177, u178, u179, u180, u181, u182, u183, u184, u185, u186, u187, u188, u189, u190, u191, u192, u193, u194, u195, u196, u197, u198, u199, u200, u201, u202, u203, u204, u205, u206, u207, u208, u209, u210, u211, u212, u213, u214, u215, u216, u217, u218, u219, u220, u221, u222, u223, u224, u225, u226, u227, u228, u229, u230, u231, u232, u233, u234, u235, u236, u237, u238, u239, u240, u241, u242, u243, u244, u245, u246, u247, u248, u249, u250, u251, u252, u253, u254, u255, u256, u257, u258, u259, u260, u261, u262, u263, u264, u265, u266, u267, u268, u269, u270, u271, u272, u273, u274, u275, u276, u277, u278, u279, u280, u281, u282, u283, u284, u285, u286, u287, u288, u289, u290, u291, u292, u293, u294, u295, u296, u297, u298, u299, u300, u301, u302, u303, u304, u305, u306, u307, u308, u309, u310, u311, u312, u313, u314, u315, u316, u317, u318, u319, u320, u321, u322, u323, u324, u325, u326, u327, u328, u329, u330, u331, u332, u333, u334, u335, u336, u337, u338, u339, u340, u341, u342, u343, u344, u345, u346, u347, u348, u349, u350, u351, u352, u353, u354, u355, u356, u357, u358, u359, u360, u361, u362, u363, u364, u365, u366, u367, u368, u369, u370, u371, u372, u373, u374], []⟩ wr := by
  conv => arg 2; whnf
  obtain ⟨b, o, rfl, hok, hrg⟩ := HR.out k hlt
  obtain ⟨y, hy⟩ : ∃ y, y = xs[k] := ⟨_, rfl⟩
  rw [← hy] at hok hrg hkd hnn hky hb1
  have HOK : Hid (OeOk w1 y) := hok
  have hk0 : (0 : Int) ≤ (k : Int) := by omega
  have hkI : (k : Int) < (xs.length : Int) := by omega
  have hkw : IntKind.i64.wrap ((k : Int) + 1) = ((k + 1 : Nat) : Int) := by rw [IntKind.wrap_i64]; omega
  have hLD := rangeAt_below hrg HB.out
  obtain ⟨wa, hwa⟩ : ∃ wa, wa = wr.alloc (.cells y.c tOe) := ⟨_, rfl⟩
  have hba : Below wr.heap.size wr wa := by rw [hwa]; exact alw (Below.refl _ _) _
  have hbxa : wa.heap[wr.heap.size]? = some (.cells y.c tOe (0, 0)) := by rw [hwa]; exact heap_alloc_new wr _
  have hoc := oeCells hbxa
  have hHa : Exb wa (fun b => b < w1.heap.size ∨ b = wr.heap.size) p ms mn pw mw V q v s s := by rw [hwa]; exact HE.out.box _
  have HEa : Hid _ := hHa
  have HBa : Hid (Below w1.heap.size w1 wa) := below_next HB.out hba
  have HXa : Hid _ := hbxa
  have HWA : Hid (wa = _) := hwa
  have HSZa : Hid (w1.heap.size ≤ wr.heap.size ∧ wr.heap.size < wa.heap.size) := ⟨HB.out.size, (Array.getElem?_eq_some_iff.1 hbxa).1⟩
  rw [hwa] at hoc
  clear hy hok hrg hwa hba hbxa hHa
  have k1 : (y.kd == 1) = true := by simp [hkd]
  clear hkd
  have hoca : ∀ u, Below wa.heap.size wa u → _ := fun u hu => oeCells ((hu.block _ HSZa.out.2).trans HXa.out)
  have HBG : Hid (∀ u, Below wa.heap.size wa u → ∀ (ao : Option Addr) (c : Nat), Calls Tryz.prog 8 #[.pointer (some ⟨p, 0, none⟩), .int .u64 (y.n : Int), fv y.k, .slice ao y.bn c, .int .u64 (y.now : Int)] u fun e w' => e = .returned (.tuple #[.slice none 0 0, .int .i64 1]) ∧ Below u.heap.size u w') := fun u hu ao c => by
    have h9 := HEa.out.a.below hu
    exact xbegin_big h9 y.n y.k ao y.bn c y.now hnn hky hb1
  have H_hnn : Hid _ := hnn
  have H_hky : Hid _ := hky
  have H_hb1 : Hid _ := hb1
  have HGD : Hid (∀ u, Calls Tryz.prog 11 #[fv y.k] u fun e w' => e = .returned (.bool true) ∧ Below u.heap.size u w') := fun u => by
    have h9 := rgood_t y.k u
    rw [show decide (0 ≤ y.k.1 ∧ y.k.1 < 8 ∧ y.k.2 ≤ mxX) = true from decide_eq_true hky] at h9
    exact h9
  clear hnn hky hb1
  go_upto_region 14 with (first
    | (refine wpList_load_g (by rfl) tOe _ rfl b (o + k * 15) (by rfl) y.c.toList _ hLD Tryz.underlying43 rfl infoOe ?_))
  rw [← HWA.out] at hoc ⊢
  clear hLD
  refine wp_region_noPanic ?_
  refine wp_region_held_drew (S := (fun u => Below wa.heap.size wa u)) (by kernel_rfl) (by first | exact (Below.refl _ _).drew | exact HB3.out | exact HB4.out | assumption) (fun hHeld => ?_)
  refine tz (i := 0) 78 rfl rfl hHeld ?_
  simp only [pS]
  refine tz (i := 1) 79 rfl rfl hHeld ?_
  simp only [pS]
  refine tz (i := 2) 80 rfl rfl hHeld ?_
  simp only [pS]
  refine tz (i := 3) 81 rfl rfl hHeld ?_
  simp only [pS]
  refine tz (i := 4) 82 rfl rfl hHeld ?_
  simp only [pS]
  refine tz (i := 5) 83 rfl rfl hHeld ?_
  simp only [pS]
  refine tz (i := 6) 84 rfl rfl hHeld ?_
  simp only [pS]
  refine tz (i := 8) 86 rfl rfl hHeld ?_
  simp only [pS]
  refine tz (i := 9) 87 rfl rfl hHeld ?_
  simp only [pS]
  refine run_at (i := 7) rfl (by kernel_rfl) (by rfl) (fun K hK => ?_)
  simp only [List.getElem_toArray, List.getElem_cons_zero, List.getElem_cons_succ]
  first | (go_at_call 8; refine Calls.mono (HBG.out w3 HB3.out a3 c3) ?_; rintro e9 w4 ⟨rfl, hb4⟩; have HB4 : Hid (Below wa.heap.size wa w4) := below_next HB3.out hb4; clear hb4) | (refine wpo_appN _ _ rfl wa.heap.size (.slice none 0 0) [] y.xs y.ba y.bc rfl (World.ownsRow_nil _ _ _ _) (by rw [← HOK.out.bn]; rfl) (OeOk.below HOK.out HBa.out.drew).br HOK.out.bz (by have h7 := HOK.out.bl; have h8 := HOK.out.bb; have h9 := HOK.out.bn; simp only [List.length_nil]; omega) (by exact Nat.le_refl _) ?_; intro v3 w3 hown3 hg3; rw [List.nil_append] at hown3; obtain ⟨a3, c3, hv3, hlc3, -, -, hr3, -⟩ := hown3.val; rw [← HOK.out.bn] at hv3 hlc3; subst hv3; have HB3 : Hid (Below wa.heap.size wa w3) := (Below.refl _ _).drew.grown hg3 (Nat.le_refl _) (fun j hj => by cases hj); have HR3 : Hid (Rd w3 a3 y.xs) := hr3; have HLC : Hid (y.bn ≤ c3) := hlc3; clear hown3 hg3 hr3 hlc3)
  refine hK.out _ _ (by first | exact (Below.refl _ _).drew | exact HB3.out | exact HB4.out | assumption) ?_
  clear hK K
  intro hHeld2
  clear hHeld
  have hHeld := hHeld2
  clear hHeld2
  try simp only [pS]
  refine run_at (i := 10) rfl (by kernel_rfl) (by rfl) (fun K hK => ?_)
  simp only [List.getElem_toArray, List.getElem_cons_zero, List.getElem_cons_succ]
  go_simp
  first | (go_at_call 8; refine Calls.mono (HBG.out w3 HB3.out a3 c3) ?_; rintro e9 w4 ⟨rfl, hb4⟩; have HB4 : Hid (Below wa.heap.size wa w4) := below_next HB3.out hb4; clear hb4) | (refine wpo_appN _ _ rfl wa.heap.size (.slice none 0 0) [] y.xs y.ba y.bc rfl (World.ownsRow_nil _ _ _ _) (by rw [← HOK.out.bn]; rfl) (OeOk.below HOK.out HBa.out.drew).br HOK.out.bz (by have h7 := HOK.out.bl; have h8 := HOK.out.bb; have h9 := HOK.out.bn; simp only [List.length_nil]; omega) (by exact Nat.le_refl _) ?_; intro v3 w3 hown3 hg3; rw [List.nil_append] at hown3; obtain ⟨a3, c3, hv3, hlc3, -, -, hr3, -⟩ := hown3.val; rw [← HOK.out.bn] at hv3 hlc3; subst hv3; have HB3 : Hid (Below wa.heap.size wa w3) := (Below.refl _ _).drew.grown hg3 (Nat.le_refl _) (fun j hj => by cases hj); have HR3 : Hid (Rd w3 a3 y.xs) := hr3; have HLC : Hid (y.bn ≤ c3) := hlc3; clear hown3 hg3 hr3 hlc3)
  go_wp2_with fail
  refine hK.out _ _ (by first | exact (Below.refl _ _).drew | exact HB3.out | exact HB4.out | assumption) ?_
  clear hK K
  intro hHeld2
  clear hHeld
  have hHeld := hHeld2
  clear hHeld2
  try simp only [pS]
  refine tz (i := 11) 77 rfl rfl hHeld ?_
  simp only [pS]
  refine tz (i := 12) 89 rfl rfl hHeld ?_
  simp only [pS]
  refine tz (i := 13) 90 rfl rfl hHeld ?_
  simp only [pS]
  refine tz (i := 14) 17 rfl rfl hHeld ?_
  simp only [pS]
  refine tz (i := 15) 18 rfl rfl hHeld ?_
  simp only [pS]
  refine wpAnyH_done (by kernel_rfl) ?_ _
  refine NoPanic.normal ?_
  clear hHeld hoca
  have HE4 : Hid (Exb w4 (fun b => b < w1.heap.size ∨ b = wr.heap.size) p ms mn pw mw V q v s s) := HEa.out.below HB4.out
  have HX4 : Hid (w4.heap[wr.heap.size]? = _) := (HB4.out.block _ HSZa.out.2).trans HXa.out
  have HBw4 : Hid (Below w1.heap.size w1 w4) := below_next HBa.out HB4.out
  have hoc1 := oeCells HX4.out
  have HOF1 : Hid _ := bof_any HE4.out.b y.k
  go_wp2_with fail
  refine Calls.mono HOF1.out ?_
  rintro e9 wf1 ⟨⟨x1, bb1, rfl⟩, hbf1⟩
  obtain ⟨wg1, hwg1⟩ : ∃ u, u = wf1.alloc (.cells #[.int .u64 (x1.n : Int), .int .i64 x1.k.1, .int .u64 (x1.k.2 : Int), .int .u64 (x1.ov : Int)] tBs) := ⟨_, rfl⟩
  have hbg1 : Below w4.heap.size w4 wg1 := by rw [hwg1]; exact alw hbf1 _
  have HEg1 : Hid _ := HE4.out.below hbg1
  have HXg1 : Hid (wg1.heap[wr.heap.size]? = _) := (hbg1.block _ (Array.getElem?_eq_some_iff.1 HX4.out).1).trans HX4.out
  have HBg1 : Hid (Below w1.heap.size w1 wg1) := below_next HBw4.out hbg1
  have HBl1 : Hid _ := hbg1
  have HWg1 : Hid (wg1 = _) := hwg1
  clear hbf1 hbg1 hwg1 hoc1
  have hocg1 := oeCells HXg1.out
  rw [HWg1.out] at hocg1
  have HOF2 : Hid _ := bnum_any HEg1.out.b y.n
  go_wp2_with fail
  rw [← HWg1.out] at hocg1 ⊢
  clear hocg1
  refine Calls.mono HOF2.out ?_
  rintro e9 wf2 ⟨⟨x2, bb2, rfl⟩, hbf2⟩
  obtain ⟨wg2, hwg2⟩ : ∃ u, u = wf2.alloc (.cells #[.int .u64 (x2.n : Int), .int .i64 x2.k.1, .int .u64 (x2.k.2 : Int), .int .u64 (x2.ov : Int)] tBs) := ⟨_, rfl⟩
  have hbg2 : Below wg1.heap.size wg1 wg2 := by rw [hwg2]; exact alw hbf2 _
  have HEg2 : Hid _ := HEg1.out.below hbg2
  have HXg2 : Hid (wg2.heap[wr.heap.size]? = _) := (hbg2.block _ (Array.getElem?_eq_some_iff.1 HXg1.out).1).trans HXg1.out
  have HBg2 : Hid (Below w1.heap.size w1 wg2) := below_next HBg1.out hbg2
  have HBl2 : Hid _ := hbg2
  have HWg2 : Hid (wg2 = _) := hwg2
  clear hbf2 hbg2 hwg2
  have hocg2 := oeCells HXg2.out
  rw [HWg2.out] at hocg2
  have zn0 : (0 : Int) < (y.n : Int) := by have := H_hnn.out; omega
  have zb0 : (0 : Int) < (y.bn : Int) := by have := H_hb1.out; omega
  have zb1 : ¬ (y.bn : Int) ≤ 1024 := by have := H_hb1.out; omega
  go_upto_region 17 with (fail)
  iterate 27 (first | go_skip | go_guarded | go_step)
  rw [show decide ((y.n : Int) < 281474976710656) = true from decide_eq_true (by have := H_hnn.out; omega)]
  go_wp2_with fail
  rw [← HWg2.out] at hocg2 ⊢
  clear hocg2
  refine Calls.mono (HGD.out _) ?_
  rintro e9 w9 ⟨rfl, hb9⟩
  have HEg9 : Hid _ := HEg2.out.below hb9
  have HXg9 : Hid (w9.heap[wr.heap.size]? = _) := (hb9.block _ (Array.getElem?_eq_some_iff.1 HXg2.out).1).trans HXg2.out
  have HBg9 : Hid (Below w1.heap.size w1 w9) := below_next HBg2.out hb9
  have hocg9 := oeCells HXg9.out
  clear hb9
  go_upto_region 58 with (fail)
  clear hocg9
  obtain ⟨n9, hn9⟩ : ∃ n9, n9 = (s).L.length := ⟨_, rfl⟩
  have hn64 : n9 ≤ 64 := by rw [hn9]; exact HEg9.out.a.inv.len
  obtain ⟨a9, cp9, hv9, -, -, -, hrd9⟩ := OwnG.val HEg9.out.b.row
  have hv9' : v = .slice a9 n9 cp9 := by rw [hn9]; exact hv9
  have hcs9 : ∀ u, Below w9.heap.size w9 u → u.cell? ⟨q, 0, none⟩ = some (.slice a9 n9 cp9) := fun u hu => by rw [← hv9']; exact (HEg9.out.b.below hu).cell 0
  have hc9a := hcs9 w9 (Below.refl _ _)
  have HN9 : Hid _ := hn9
  have HR9 : Hid (RdG KBs w9 a9 (s).L) := hrd9
  clear hn9 hv9 hv9' hrd9
  go_wp2
  go_loopw [37, 38] (fun u j wv => ∃ i : Nat, i ≤ n9 ∧ j = .int .i64 (i : Int) ∧ OwnG KKy wv w9.heap.size u (((s).L.take i).map Xe.k) ∧ Below w9.heap.size w9 wv) (fun _ j _ => n9 - (intOf j).toNat)
  case atStart => exact ⟨0, Nat.zero_le _, rfl, World.ownsRow_nil _ _ _ _, Below.refl _ _⟩
  case round =>
    rename World => wv
    obtain ⟨i, hin, rfl, hown, hbv⟩ := hrel
    have hiw : IntKind.i64.wrap ((i : Int) + 1) = ((i + 1 : Nat) : Int) := by rw [IntKind.wrap_i64]; omega
    have hc9 := hcs9 wv hbv
    by_cases hlt9 : i < n9
    · have hlti : (i : Int) < (n9 : Int) := by omega
      have hi0 : (0 : Int) ≤ (i : Int) := by omega
      have hi1 : i < (s).L.length := by rw [← HN9.out]; exact hlt9
      obtain ⟨b9, o9, rfl, r1, -⟩ := RdG.below HR9.out hbv i hi1
      obtain ⟨x, hx⟩ : ∃ x : Xe, x = (s).L[i] := ⟨_, rfl⟩
      have g1 := r1 1 (.int .i64 x.k.1) (by rw [hx]; rfl)
      have g2 : wv.cell? ⟨b9, o9 + i * 4 + 1 + 1, none⟩ = some (.int .u64 (x.k.2 : Int)) := r1 2 (.int .u64 (x.k.2 : Int)) (by rw [hx]; rfl)
      have HT : Hid (((s).L.take i).map Xe.k ++ [x.k] = ((s).L.take (i + 1)).map Xe.k) := by unfold Hid; rw [List.take_succ_eq_append_getElem hi1, ← hx]; simp
      have HSZ : Hid (w9.heap.size ≤ wv.heap.size) := hbv.size
      have HO : Hid (OwnG KKy (wv.alloc (.cells #[.int .i64 x.k.1, .int .u64 (x.k.2 : Int)] tFk)) w9.heap.size u37 (((s).L.take i).map Xe.k)) := hown.below (alw (Below.refl _ _) _)
      have HL9 : Hid (∀ b, u37.ownBlock = some b → w9.heap.size ≤ b) := fun b hb => (hown.lt' hb).1
      obtain ⟨m9, hm9⟩ : ∃ m9, m9 = (((s).L.take i).map Xe.k).length := ⟨_, rfl⟩
      have hm64 : m9 ≤ 64 := by rw [hm9, List.length_map, List.length_take]; omega
      have HM9 : Hid _ := hm9
      have HBV : Hid _ := hbv
      clear r1 hx hi1 hown hbv hm9 hcs9
      go_wp2_with (at_builtin; refine wp_appG1 (K := KKy) rfl _ _ rfl w9.heap.size u37 (((s).L.take i).map Xe.k) x.k m9 HM9.out ⟨wv.heap.size, 0, none⟩ 1 rfl HO.out rfl (rdF_new wv x.k _ rfl) (by show (m9 + 1) * 16 ≤ _; omega) (by simp only [maxLen]; omega) (by have := HSZ.out; simp; omega) ?_; intro g7 c7 w7 hown7 hg7 hlie7; rw [HT.out] at hown7; have HO7 : Hid _ := hown7; have HG7 : Hid _ := hg7; clear hown7 hg7 hlie7)
      go_roundw
      case rel => exact ⟨i + 1, hlt9, by go_num, HO7.out, (alw HBV.out _).grown HG7.out (by have := HSZ.out; simp; omega) (fun j hj => HL9.out j hj)⟩
      case measure => simp [intOf]; omega
    · have hlti : ¬ (i : Int) < (n9 : Int) := by omega
      have htk : (s).L.take i = (s).L := List.take_of_length_le (by rw [← HN9.out]; omega)
      rw [htk] at hown
      have HEv : Hid _ := HEg9.out.below hbv
      have HOV : Hid _ := hown
      obtain ⟨n8, hn8⟩ : ∃ n8, n8 = ((s).L.map Xe.k).length := ⟨_, rfl⟩
      have hn864 : n8 ≤ 64 := by rw [hn8, List.length_map, ← HN9.out]; exact hn64
      obtain ⟨ab, cb, hvb, -, -, -, hrb⟩ := hown.val
      rw [← hn8] at hvb
      subst hvb
      have HN8 : Hid _ := hn8
      have HRB : Hid (RdG KKy wv ab ((s).L.map Xe.k)) := hrb
      have HBV : Hid _ := hbv
      clear htk hown hbv hcs9 hn8 hrb
      go_wp2_with (first
        | (go_at_call 18; refine Calls.mono (xbusy_t HEv.out.a) ?_; rintro e9 w5 ⟨va, rfl, howna, hb5⟩; obtain ⟨aa, ca, hva, -, -, -, hra⟩ := howna.val; rw [← HN8.out] at hva; subst hva; have HRA : Hid (RdG KKy w5 aa ((s).L.map Xe.k)) := hra; have HB5 : Hid _ := hb5; clear howna hb5 hra)
        | (go_at_call 15; refine Calls.mono (sameKeys_t aa ab n8 ca cb ((s).L.map Xe.k) HN8.out (by omega) HRA.out (RdG.below HRB.out HB5.out)) ?_; rintro e9 w7 ⟨rfl, hb7⟩; have HB7 : Hid _ := hb7; clear hb7))
      refine ⟨?_, ?_⟩
      · unfold WIx
        iterate 365 (apply Exists.intro)
        have h9 := HEv.out.below (below_next HB5.out HB7.out)
        exact ⟨⟨k + 1, V, v, s, by omega, by go_num, Nat.le_trans HSB.out (Nat.le_succ _), HSC.out, h9.less (fun b hb => .inl hb) (Nat.lt_of_lt_of_le (Nat.lt_of_le_of_lt (Nat.zero_le _) hlt0) (Nat.le_refl _)), HBg9.out.trans ((below_next HBV.out (below_next HB5.out HB7.out)).mono HBg9.out.size)⟩, rfl⟩
      · simp [Wmux, intOf]; omega
end Go.Proofs.YtiedgcanndgmoaaGreatDoor
namespace Go.Proofs.YtiedgcanndgmoaaGreatDoor
set_option linter.unusedVariables false
set_option linter.unusedSimpArgs false
open Go.RowKit Go.Maps
set_option maxRecDepth 100000 in
set_option maxHeartbeats 12800000 in
theorem ocase1tk (w1 : World) (ao : Option Addr) (cap : Nat) (xs : List Oe) (P0 p ms mn pw mw q M A EP : Nat) (hM : 16 ≤ M ∧ M ≤ 1024) (hAk : A ≤ 4096) (hEP : 1 ≤ EP ∧ EP ≤ 281474976710655) (hl : xs.length ≤ 4398046511103) (HR : Hid (RdOe w1 ao xs)) (HC : Hid (w1.heap[P0]? = some (.cells #[.int .i64 (M : Int), .int .u64 (A : Int), .int .u64 1, .int .i64 0, .int .i64 1, .int .i64 1] 25 (0, 0))))
    (u0 u1 u3 u10 u13 u16 u17 u18 u19 u20 u21 u22 u23 u24 u25 u26 u27 u28 u29 u30 u31 u32 u33 u34 u35 u36 u37 u38 u39 u40 u41 u42 u43 u44 u45 u46 u47 u48 u49 u50 u51 u52 u53 u54 u55 u56 u57 u58 u59 u60 u61 u62 u63 u64 u65 u66 u67 u68 u69 u70 u71 u72 u73 u74 u75 u76 u77 u78 u79 u80 u81 u82 u83 u84 u85 u86 u87 u88 u89 u90 u91 u92 u93 u94 u95 u96 u97 u98 u99 u100 u101 u102 u103 u104 u105 u106 u107 u108 u109 u110 u111 u112 u113 u114 u115 u116 u117 u118 u119 u120 u121 u122 u123 u124 u125 u126 u127 u128 u129 u130 u131 u132 u133 u134 u135 u136 u137 u138 u139 u140 u141 u142 u143 u144 u145 u146 u147 u148 u149 u150 u151 u152 u153 u154 u155 u156 u157 u158 u159 u160 u161 u162 u163 u164 u165 u166 u167 u168 u169 u170 u171 u172 u173 u174 u175 u176 u177 u178 u179 u180 u181 u182 u183 u184 u185 u186 u187 u188 u189 u190 u191 u192 u193 u194 u195 u196 u197 u198 u199 u200 u201 u202 u203 u204 u205 u206 u207 u208 u209 u210 u211 u212 u213 u214 u215 u216 u217 u218 u219 u220 u221 u222 u223 u224 u225 u226 u227 u228 u229 u230 u231 u232 u233 u234 u235 u236 u237 u238 u239 u240 u241 u242 u243 u244 u245 u246 u247 u248 u249 u250 u251 u252 u253 u254 u255 u256 u257 u258 u259 u260 u261 u262 u263 u264 u265 u266 u267 u268 u269 u270 u271 u272 u273 u274 u275 u276 u277 u278 u279 u280 u281 u282 u283 u284 u285 u286 u287 u288 u289 u290 u291 u292 u293 u294 u295 u296 u297 u298 u299 u300 u301 u302 u303 u304 u305 u306 u307 u308 u309 u310 u311 u312 u313 u314 u315 u316 u317 u318 u319 u320 u321 u322 u323 u324 u325 u326 u327 u328 u329 u330 u331 u332 u333 u334 u335 u336 u337 u338 u339 u340 u341 u342 u343 u344 u345 u346 u347 u348 u349 u350 u351 u352 u353 u354 u355 u356 u357 u358 u359 u360 u361 u362 u363 u364 u365 u366 u367 u368 u369 u370 u371 u372 u373 u374 : Value) (wr : World) (k : Nat) (V : Nat → Nat → Value) (v : Value) (s : Xs) (hk : k ≤ xs.length) (HSB : Hid (s.beg ≤ k)) (HSC : Hid (s.mtu = M ∧ s.ack = A ∧ s.ep = EP)) (HE : Hid (Exb wr (fun b => b < w1.heap.size) p ms mn pw mw V q v s s)) (HB : Hid (Below w1.heap.size w1 wr)) (hlt0 : 0 < w1.heap.size) (hlt : k < xs.length) (hkd : xs[k].kd = 1) (hnn : 1 ≤ xs[k].n ∧ xs[k].n ≤ 281474976710655) (hky : goodK xs[k].k) (hbn : 1 ≤ xs[k].bn ∧ xs[k].bn ≤ 1024) (hin : xs[k].k ∈ s.L.map Xe.k) (Q0 : Exit → Act → World → Prop) :
    Code.wp Tryz.prog (TBx Tryz.f3.body) (Exit.then (fun a' w'' => WIx w1 ao cap xs P0 p ms mn pw mw q M A EP a' w'' ∧ Wmux xs.length a' w'' < Wmux xs.length ⟨#[u0, u1, .int .u64 (EP : Int), u3, .slice ao xs.length cap, undef, undef, undef, undef, undef, u10, .pointer (some ⟨P0, 0, none⟩), .pointer (some ⟨p, 0, none⟩), u13, .pointer (some ⟨q, 0, none⟩), .int .i64 k, u16, u17, u18, u19, u20, u21, u22, u23, u24, u25, u26, u27, u28, u29, u30, u31, u32, u33, u34, u35, u36, u37, u38, u39, u40, u41, u42, u43, u44, u45, u46, u47, u48, u49, u50, u51, u52, u53, u54, u55, u56, u57, u58, u59, u60, u61, u62, u63, u64, u65, u66, u67, u68, u69, u70, u71, u72, u73, u74, u75, u76, u77, u78, u79, u80, u81, u82, u83, u84, u85, u86, u87, u88, u89, u90, u91, u92, u93, u94, u95, u96, u97, u98, u99, u100, u101, u102, u103, u104, u105, u106, u107, u108, u109, u110, u111, u112, u113, u114, u115, u116, u117, u118, u119, u120, u121, u122, u123, u124, u125, u126, u127, u128, u129, u130, u131, u132, u133, u134, u135, u136, u137, u138, u139, u140, u141, u142, u143, u144, u145, u146, u147, u148, u149, u150, u151, u152, u153, u154, u155, u156, u157, u158, u159, u160, u161, u162, u163, u164, u165, u166, u167, u168, u169, u170, u171, u172, u173, u174, u175, u176, u177, u178, u179, u180, u181, u182, u183, u184, u185, u186, u187, u188, u189, u190, u191, u192, u193, u194, u195, u196, u197, u198, u199, u200, u201, u202, u203, u204, u205, u206, u207, u208, u209, u210, u211, u212, u213, u214, u215, u216, u217, u218, u219, u220, u221, u222, u223, u224, u225, u226, u227, u228, u229, u230, u231, u232, u233, u234, u235, u236, u237, u238, u239, u240, u241, u242, u243, u244, u245, u246, u247, u248, u249, u250, u251, u252, u253, u254, u255, u256, u257, u258, u259, u260, u261, u262, u263, u264, u265, u266, u267, u268, u269, u270, u271, u272, u273, u274, u275, u276, u277, u278, u279, u280, u281, u282, u283, u284, u285, u286, u287, u288, u289, u290, u291, u292, u293, u294, u295, u296, u297, u298, u299, u300, u301, u302, u303, u304, u305, u306, u307, u308, u309, u310, u311, u312, u313, u314, u315, u316, u317, u318, u319, u320, u321, u322, u323, u324, u325, u326, u327, u328, u329, u330, u331, u332, u333, u334, u335, u336, u337, u338, u339, u340, u341, u342, u343, u344, u345, u346, u347, u348, u349, u350, u351, u352, u353, u354, u355, u356, u357, u358, u359, u360, u361, u362, u363, u364, u365, u366, u367, u368, u369, u370, u371, u372, u373, u374], []⟩ wr) Q0) ⟨#[u0, u1, .int .u64 (EP : Int), u3, .slice ao xs.length cap, undef, undef, undef, undef, undef, u10, .pointer (some ⟨P0, 0, none⟩), .pointer (some ⟨p, 0, none⟩), u13, .pointer (some ⟨q, 0, none⟩), .int .i64 k, u16, u17, u18, u19, u20, u21, u22, u23, u24, u25, u26, u27, u28, u29, u30, u31, u32, u33, u34, u35, u36, u37, u38, u39, u40, u41, u42, u43, u44, u45, u46, u47, u48, u49, u50, u51, u52, u53, u54, u55, u56, u57, u58, u59, u60, u61, u62, u63, u64, u65, u66, u67, u68, u69, u70, u71, u72, u73, u74, u75, u76, u77, u78, u79, u80, u81, u82, u83, u84, u85, u86, u87, u88, u89, u90, u91, u92, u93, u94, u95, u96, u97, u98, u99, u100, u101, u102, u103, u104, u105, u106, u107, u108, u109, u110, u111, u112, u113, u114, u115, u116, u117, u118, u119, u120, u121, u122, u123, u124, u125, u126, u127, u128, u129, u130, u131, u132, u133, u134, u135, u136, u137, u138, u139, u140, u141, u142, u143, u144, u145, u146, u147, u148, u149, u150, u151, u152, u153, u154, u155, u156, u157, u158, u159, u160, u161, u162, u163, u164, u165, u166, u167, u168, u169, u170, u171, u172, u173, u174, u175, u176, u177, u178, u179, u180, u181, u182, u183, u184, u185, u186, u187, u188, u189, u190, u191, u192, u193, u194, u195, u196, u197, u198, u199, u200, u201, u202, u203, u204, u205, u206, u207, u208, u209, u210, u211, u212, u213, u214, u215, u216, u217, u218, u219, u220, u221, u222, u223, u224, u225, u226, u227, u228, u229, u230, u231, u232, u233, u234, u235, u236, u237, u238, u239, u240, u241, u242, u243, u244, u245, u246, u247, u248, u249, u250, u251, u252, u253, u254, u255, u256, u257, u258, u259, u260, u261, u262, u263, u264, u265, u266, u267, u268, u269, u270, u271, u272, u273, u274, u275, u276, u277, u278, u279, u280, u281, u282, u283, u284, u285, u286, u287, u288, u289, u290, u291, u292, u293, u294, u295, u296, u297, u298, u299, u300, u301, u302, u303, u304, u305, u306, u307, u308, u309, u310, u311, u312, u313, u314, u315, u316, u317, u318, u319, u320, u321, u322, u323, u324, u325, u326, u327, u328, u329, u330, u331, u332, u333, u334, u335, u336, u337, u338, u339, u340, u341, u342, u343, u344, u345, u346, u347, u348, u349, u350, u351, u352, u353, u354, u355, u356, u357, u358, u359, u360, u361, u362, u363, u364, u365, u366, u367, u368, u369, u370, u371, u372, u373, u374], []⟩ wr := by
  conv => arg 2; whnf
  obtain ⟨b, o, rfl, hok, hrg⟩ := HR.out k hlt
  obtain ⟨y, hy⟩ : ∃ y, y = xs[k] := ⟨_, rfl⟩
  rw [← hy] at hok hrg hkd hnn hky hbn hin
  have HOK : Hid (OeOk w1 y) := hok
  have hk0 : (0 : Int) ≤ (k : Int) := by omega
  have hkI : (k : Int) < (xs.length : Int) := by omega
  have hkw : IntKind.i64.wrap ((k : Int) + 1) = ((k + 1 : Nat) : Int) := by rw [IntKind.wrap_i64]; omega
  have hLD := rangeAt_below hrg HB.out
  obtain ⟨wa, hwa⟩ : ∃ wa, wa = wr.alloc (.cells y.c tOe) := ⟨_, rfl⟩
  have hba : Below wr.heap.size wr wa := by rw [hwa]; exact alw (Below.refl _ _) _
  have hbxa : wa.heap[wr.heap.size]? = some (.cells y.c tOe (0, 0)) := by rw [hwa]; exact heap_alloc_new wr _
  have hoc := oeCells hbxa
  have hHa : Exb wa (fun b => b < w1.heap.size ∨ b = wr.heap.size) p ms mn pw mw V q v s s := by rw [hwa]; exact HE.out.box _
  have HEa : Hid _ := hHa
  have HBa : Hid (Below w1.heap.size w1 wa) := below_next HB.out hba
  have HXa : Hid _ := hbxa
  have HWA : Hid (wa = _) := hwa
  have HSZa : Hid (w1.heap.size ≤ wr.heap.size ∧ wr.heap.size < wa.heap.size) := ⟨HB.out.size, (Array.getElem?_eq_some_iff.1 hbxa).1⟩
  rw [hwa] at hoc
  clear hy hok hrg hwa hba hbxa hHa
  have k1 : (y.kd == 1) = true := by simp [hkd]
  clear hkd
  have hoca : ∀ u, Below wa.heap.size wa u → _ := fun u hu => oeCells ((hu.block _ HSZa.out.2).trans HXa.out)
  have HBG : Hid (∀ u, Below wa.heap.size wa u → ∀ (ao : Option Addr) (c : Nat), Calls Tryz.prog 8 #[.pointer (some ⟨p, 0, none⟩), .int .u64 (y.n : Int), fv y.k, .slice ao y.bn c, .int .u64 (y.now : Int)] u fun e w' => e = .returned (.tuple #[.slice none 0 0, .int .i64 3]) ∧ Below u.heap.size u w') := fun u hu ao c => by
    have h9 := HEa.out.a.below hu
    exact xbegin_twice h9 y.n y.k ao y.bn c y.now hnn hky hbn (.inr hin)
  have H_hnn : Hid _ := hnn
  have H_hky : Hid _ := hky
  have H_hbn : Hid _ := hbn
  have H_hin : Hid _ := hin
  have HGD : Hid (∀ u, Calls Tryz.prog 11 #[fv y.k] u fun e w' => e = .returned (.bool true) ∧ Below u.heap.size u w') := fun u => by
    have h9 := rgood_t y.k u
    rw [show decide (0 ≤ y.k.1 ∧ y.k.1 < 8 ∧ y.k.2 ≤ mxX) = true from decide_eq_true hky] at h9
    exact h9
  clear hnn hky hbn hin
  go_upto_region 14 with (first
    | (refine wpList_load_g (by rfl) tOe _ rfl b (o + k * 15) (by rfl) y.c.toList _ hLD Tryz.underlying43 rfl infoOe ?_))
  rw [← HWA.out] at hoc ⊢
  clear hLD
  refine wp_region_noPanic ?_
  refine wp_region_held_drew (S := (fun u => Below wa.heap.size wa u)) (by kernel_rfl) (by first | exact (Below.refl _ _).drew | exact HB3.out | exact HB4.out | assumption) (fun hHeld => ?_)
  refine tz (i := 0) 78 rfl rfl hHeld ?_
  simp only [pS]
  refine tz (i := 1) 79 rfl rfl hHeld ?_
  simp only [pS]
  refine tz (i := 2) 80 rfl rfl hHeld ?_
  simp only [pS]
  refine tz (i := 3) 81 rfl rfl hHeld ?_
  simp only [pS]
  refine tz (i := 4) 82 rfl rfl hHeld ?_
  simp only [pS]
  refine tz (i := 5) 83 rfl rfl hHeld ?_
  simp only [pS]
  refine tz (i := 6) 84 rfl rfl hHeld ?_
  simp only [pS]
  refine tz (i := 8) 86 rfl rfl hHeld ?_
  simp only [pS]
  refine tz (i := 9) 87 rfl rfl hHeld ?_
  simp only [pS]
  refine run_at (i := 7) rfl (by kernel_rfl) (by rfl) (fun K hK => ?_)
  simp only [List.getElem_toArray, List.getElem_cons_zero, List.getElem_cons_succ]
  first | (go_at_call 8; refine Calls.mono (HBG.out w3 HB3.out a3 c3) ?_; rintro e9 w4 ⟨rfl, hb4⟩; have HB4 : Hid (Below wa.heap.size wa w4) := below_next HB3.out hb4; clear hb4) | (refine wpo_appN _ _ rfl wa.heap.size (.slice none 0 0) [] y.xs y.ba y.bc rfl (World.ownsRow_nil _ _ _ _) (by rw [← HOK.out.bn]; rfl) (OeOk.below HOK.out HBa.out.drew).br HOK.out.bz (by have h7 := HOK.out.bl; have h8 := HOK.out.bb; have h9 := HOK.out.bn; simp only [List.length_nil]; omega) (by exact Nat.le_refl _) ?_; intro v3 w3 hown3 hg3; rw [List.nil_append] at hown3; obtain ⟨a3, c3, hv3, hlc3, -, -, hr3, -⟩ := hown3.val; rw [← HOK.out.bn] at hv3 hlc3; subst hv3; have HB3 : Hid (Below wa.heap.size wa w3) := (Below.refl _ _).drew.grown hg3 (Nat.le_refl _) (fun j hj => by cases hj); have HR3 : Hid (Rd w3 a3 y.xs) := hr3; have HLC : Hid (y.bn ≤ c3) := hlc3; clear hown3 hg3 hr3 hlc3)
  refine hK.out _ _ (by first | exact (Below.refl _ _).drew | exact HB3.out | exact HB4.out | assumption) ?_
  clear hK K
  intro hHeld2
  clear hHeld
  have hHeld := hHeld2
  clear hHeld2
  try simp only [pS]
  refine run_at (i := 10) rfl (by kernel_rfl) (by rfl) (fun K hK => ?_)
  simp only [List.getElem_toArray, List.getElem_cons_zero, List.getElem_cons_succ]
  go_simp
  first | (go_at_call 8; refine Calls.mono (HBG.out w3 HB3.out a3 c3) ?_; rintro e9 w4 ⟨rfl, hb4⟩; have HB4 : Hid (Below wa.heap.size wa w4) := below_next HB3.out hb4; clear hb4) | (refine wpo_appN _ _ rfl wa.heap.size (.slice none 0 0) [] y.xs y.ba y.bc rfl (World.ownsRow_nil _ _ _ _) (by rw [← HOK.out.bn]; rfl) (OeOk.below HOK.out HBa.out.drew).br HOK.out.bz (by have h7 := HOK.out.bl; have h8 := HOK.out.bb; have h9 := HOK.out.bn; simp only [List.length_nil]; omega) (by exact Nat.le_refl _) ?_; intro v3 w3 hown3 hg3; rw [List.nil_append] at hown3; obtain ⟨a3, c3, hv3, hlc3, -, -, hr3, -⟩ := hown3.val; rw [← HOK.out.bn] at hv3 hlc3; subst hv3; have HB3 : Hid (Below wa.heap.size wa w3) := (Below.refl _ _).drew.grown hg3 (Nat.le_refl _) (fun j hj => by cases hj); have HR3 : Hid (Rd w3 a3 y.xs) := hr3; have HLC : Hid (y.bn ≤ c3) := hlc3; clear hown3 hg3 hr3 hlc3)
  go_wp2_with fail
  refine hK.out _ _ (by first | exact (Below.refl _ _).drew | exact HB3.out | exact HB4.out | assumption) ?_
  clear hK K
  intro hHeld2
  clear hHeld
  have hHeld := hHeld2
  clear hHeld2
  try simp only [pS]
  refine tz (i := 11) 77 rfl rfl hHeld ?_
  simp only [pS]
  refine tz (i := 12) 89 rfl rfl hHeld ?_
  simp only [pS]
  refine tz (i := 13) 90 rfl rfl hHeld ?_
  simp only [pS]
  refine tz (i := 14) 17 rfl rfl hHeld ?_
  simp only [pS]
  refine tz (i := 15) 18 rfl rfl hHeld ?_
  simp only [pS]
  refine wpAnyH_done (by kernel_rfl) ?_ _
  refine NoPanic.normal ?_
  clear hHeld hoca
  have HE4 : Hid (Exb w4 (fun b => b < w1.heap.size ∨ b = wr.heap.size) p ms mn pw mw V q v s s) := HEa.out.below HB4.out
  have HX4 : Hid (w4.heap[wr.heap.size]? = _) := (HB4.out.block _ HSZa.out.2).trans HXa.out
  have HBw4 : Hid (Below w1.heap.size w1 w4) := below_next HBa.out HB4.out
  have hoc1 := oeCells HX4.out
  obtain ⟨x1, hx1, hxe1⟩ := List.mem_map.1 H_hin.out
  have HOF1 : Hid _ := bof_in HE4.out.b x1 hx1
  rw [hxe1] at HOF1
  clear hx1 hxe1
  go_wp2_with fail
  refine Calls.mono HOF1.out ?_
  rintro e9 wf1 ⟨rfl, hbf1⟩
  obtain ⟨wg1, hwg1⟩ : ∃ u, u = wf1.alloc (.cells #[.int .u64 (x1.n : Int), .int .i64 x1.k.1, .int .u64 (x1.k.2 : Int), .int .u64 (x1.ov : Int)] tBs) := ⟨_, rfl⟩
  have hbg1 : Below w4.heap.size w4 wg1 := by rw [hwg1]; exact alw hbf1 _
  have HEg1 : Hid _ := HE4.out.below hbg1
  have HXg1 : Hid (wg1.heap[wr.heap.size]? = _) := (hbg1.block _ (Array.getElem?_eq_some_iff.1 HX4.out).1).trans HX4.out
  have HBg1 : Hid (Below w1.heap.size w1 wg1) := below_next HBw4.out hbg1
  have HBl1 : Hid _ := hbg1
  have HWg1 : Hid (wg1 = _) := hwg1
  clear hbf1 hbg1 hwg1 hoc1
  have hocg1 := oeCells HXg1.out
  rw [HWg1.out] at hocg1
  have HOF2 : Hid _ := bnum_any HEg1.out.b y.n
  go_wp2_with fail
  rw [← HWg1.out] at hocg1 ⊢
  clear hocg1
  refine Calls.mono HOF2.out ?_
  rintro e9 wf2 ⟨⟨x2, bb2, rfl⟩, hbf2⟩
  obtain ⟨wg2, hwg2⟩ : ∃ u, u = wf2.alloc (.cells #[.int .u64 (x2.n : Int), .int .i64 x2.k.1, .int .u64 (x2.k.2 : Int), .int .u64 (x2.ov : Int)] tBs) := ⟨_, rfl⟩
  have hbg2 : Below wg1.heap.size wg1 wg2 := by rw [hwg2]; exact alw hbf2 _
  have HEg2 : Hid _ := HEg1.out.below hbg2
  have HXg2 : Hid (wg2.heap[wr.heap.size]? = _) := (hbg2.block _ (Array.getElem?_eq_some_iff.1 HXg1.out).1).trans HXg1.out
  have HBg2 : Hid (Below w1.heap.size w1 wg2) := below_next HBg1.out hbg2
  have HBl2 : Hid _ := hbg2
  have HWg2 : Hid (wg2 = _) := hwg2
  clear hbf2 hbg2 hwg2
  have hocg2 := oeCells HXg2.out
  rw [HWg2.out] at hocg2
  have zn0 : (0 : Int) < (y.n : Int) := by have := H_hnn.out; omega
  have zb0 : (0 : Int) < (y.bn : Int) := by have := H_hbn.out; omega
  have zb1 : (y.bn : Int) ≤ 1024 := by have := H_hbn.out; omega
  go_upto_region 17 with (fail)
  iterate 27 (first | go_skip | go_guarded | go_step)
  rw [show decide ((y.n : Int) < 281474976710656) = true from decide_eq_true (by have := H_hnn.out; omega)]
  go_wp2_with fail
  rw [← HWg2.out] at hocg2 ⊢
  clear hocg2
  refine Calls.mono (HGD.out _) ?_
  rintro e9 w9 ⟨rfl, hb9⟩
  have HEg9 : Hid _ := HEg2.out.below hb9
  have HXg9 : Hid (w9.heap[wr.heap.size]? = _) := (hb9.block _ (Array.getElem?_eq_some_iff.1 HXg2.out).1).trans HXg2.out
  have HBg9 : Hid (Below w1.heap.size w1 w9) := below_next HBg2.out hb9
  have hocg9 := oeCells HXg9.out
  clear hb9
  go_upto_region 58 with (fail)
  clear hocg9
  obtain ⟨n9, hn9⟩ : ∃ n9, n9 = (s).L.length := ⟨_, rfl⟩
  have hn64 : n9 ≤ 64 := by rw [hn9]; exact HEg9.out.a.inv.len
  obtain ⟨a9, cp9, hv9, -, -, -, hrd9⟩ := OwnG.val HEg9.out.b.row
  have hv9' : v = .slice a9 n9 cp9 := by rw [hn9]; exact hv9
  have hcs9 : ∀ u, Below w9.heap.size w9 u → u.cell? ⟨q, 0, none⟩ = some (.slice a9 n9 cp9) := fun u hu => by rw [← hv9']; exact (HEg9.out.b.below hu).cell 0
  have hc9a := hcs9 w9 (Below.refl _ _)
  have HN9 : Hid _ := hn9
  have HR9 : Hid (RdG KBs w9 a9 (s).L) := hrd9
  clear hn9 hv9 hv9' hrd9
  go_wp2
  go_loopw [37, 38] (fun u j wv => ∃ i : Nat, i ≤ n9 ∧ j = .int .i64 (i : Int) ∧ OwnG KKy wv w9.heap.size u (((s).L.take i).map Xe.k) ∧ Below w9.heap.size w9 wv) (fun _ j _ => n9 - (intOf j).toNat)
  case atStart => exact ⟨0, Nat.zero_le _, rfl, World.ownsRow_nil _ _ _ _, Below.refl _ _⟩
  case round =>
    rename World => wv
    obtain ⟨i, hin, rfl, hown, hbv⟩ := hrel
    have hiw : IntKind.i64.wrap ((i : Int) + 1) = ((i + 1 : Nat) : Int) := by rw [IntKind.wrap_i64]; omega
    have hc9 := hcs9 wv hbv
    by_cases hlt9 : i < n9
    · have hlti : (i : Int) < (n9 : Int) := by omega
      have hi0 : (0 : Int) ≤ (i : Int) := by omega
      have hi1 : i < (s).L.length := by rw [← HN9.out]; exact hlt9
      obtain ⟨b9, o9, rfl, r1, -⟩ := RdG.below HR9.out hbv i hi1
      obtain ⟨x, hx⟩ : ∃ x : Xe, x = (s).L[i] := ⟨_, rfl⟩
      have g1 := r1 1 (.int .i64 x.k.1) (by rw [hx]; rfl)
      have g2 : wv.cell? ⟨b9, o9 + i * 4 + 1 + 1, none⟩ = some (.int .u64 (x.k.2 : Int)) := r1 2 (.int .u64 (x.k.2 : Int)) (by rw [hx]; rfl)
      have HT : Hid (((s).L.take i).map Xe.k ++ [x.k] = ((s).L.take (i + 1)).map Xe.k) := by unfold Hid; rw [List.take_succ_eq_append_getElem hi1, ← hx]; simp
      have HSZ : Hid (w9.heap.size ≤ wv.heap.size) := hbv.size
      have HO : Hid (OwnG KKy (wv.alloc (.cells #[.int .i64 x.k.1, .int .u64 (x.k.2 : Int)] tFk)) w9.heap.size u37 (((s).L.take i).map Xe.k)) := hown.below (alw (Below.refl _ _) _)
      have HL9 : Hid (∀ b, u37.ownBlock = some b → w9.heap.size ≤ b) := fun b hb => (hown.lt' hb).1
      obtain ⟨m9, hm9⟩ : ∃ m9, m9 = (((s).L.take i).map Xe.k).length := ⟨_, rfl⟩
      have hm64 : m9 ≤ 64 := by rw [hm9, List.length_map, List.length_take]; omega
      have HM9 : Hid _ := hm9
      have HBV : Hid _ := hbv
      clear r1 hx hi1 hown hbv hm9 hcs9
      go_wp2_with (at_builtin; refine wp_appG1 (K := KKy) rfl _ _ rfl w9.heap.size u37 (((s).L.take i).map Xe.k) x.k m9 HM9.out ⟨wv.heap.size, 0, none⟩ 1 rfl HO.out rfl (rdF_new wv x.k _ rfl) (by show (m9 + 1) * 16 ≤ _; omega) (by simp only [maxLen]; omega) (by have := HSZ.out; simp; omega) ?_; intro g7 c7 w7 hown7 hg7 hlie7; rw [HT.out] at hown7; have HO7 : Hid _ := hown7; have HG7 : Hid _ := hg7; clear hown7 hg7 hlie7)
      go_roundw
      case rel => exact ⟨i + 1, hlt9, by go_num, HO7.out, (alw HBV.out _).grown HG7.out (by have := HSZ.out; simp; omega) (fun j hj => HL9.out j hj)⟩
      case measure => simp [intOf]; omega
    · have hlti : ¬ (i : Int) < (n9 : Int) := by omega
      have htk : (s).L.take i = (s).L := List.take_of_length_le (by rw [← HN9.out]; omega)
      rw [htk] at hown
      have HEv : Hid _ := HEg9.out.below hbv
      have HOV : Hid _ := hown
      obtain ⟨n8, hn8⟩ : ∃ n8, n8 = ((s).L.map Xe.k).length := ⟨_, rfl⟩
      have hn864 : n8 ≤ 64 := by rw [hn8, List.length_map, ← HN9.out]; exact hn64
      obtain ⟨ab, cb, hvb, -, -, -, hrb⟩ := hown.val
      rw [← hn8] at hvb
      subst hvb
      have HN8 : Hid _ := hn8
      have HRB : Hid (RdG KKy wv ab ((s).L.map Xe.k)) := hrb
      have HBV : Hid _ := hbv
      clear htk hown hbv hcs9 hn8 hrb
      go_wp2_with (first
        | (go_at_call 18; refine Calls.mono (xbusy_t HEv.out.a) ?_; rintro e9 w5 ⟨va, rfl, howna, hb5⟩; obtain ⟨aa, ca, hva, -, -, -, hra⟩ := howna.val; rw [← HN8.out] at hva; subst hva; have HRA : Hid (RdG KKy w5 aa ((s).L.map Xe.k)) := hra; have HB5 : Hid _ := hb5; clear howna hb5 hra)
        | (go_at_call 15; refine Calls.mono (sameKeys_t aa ab n8 ca cb ((s).L.map Xe.k) HN8.out (by omega) HRA.out (RdG.below HRB.out HB5.out)) ?_; rintro e9 w7 ⟨rfl, hb7⟩; have HB7 : Hid _ := hb7; clear hb7))
      refine ⟨?_, ?_⟩
      · unfold WIx
        iterate 365 (apply Exists.intro)
        have h9 := HEv.out.below (below_next HB5.out HB7.out)
        exact ⟨⟨k + 1, V, v, s, by omega, by go_num, Nat.le_trans HSB.out (Nat.le_succ _), HSC.out, h9.less (fun b hb => .inl hb) (Nat.lt_of_lt_of_le (Nat.lt_of_le_of_lt (Nat.zero_le _) hlt0) (Nat.le_refl _)), HBg9.out.trans ((below_next HBV.out (below_next HB5.out HB7.out)).mono HBg9.out.size)⟩, rfl⟩
      · simp [Wmux, intOf]; omega
end Go.Proofs.YtiedgcanndgmoaaGreatDoor
namespace Go.Proofs.YtiedgcanndgmoaaGreatDoor
set_option linter.unusedVariables false
set_option linter.unusedSimpArgs false
open Go.RowKit Go.Maps
set_option maxRecDepth 100000 in
set_option maxHeartbeats 12800000 in
theorem ocase1tn (w1 : World) (ao : Option Addr) (cap : Nat) (xs : List Oe) (P0 p ms mn pw mw q M A EP : Nat) (hM : 16 ≤ M ∧ M ≤ 1024) (hAk : A ≤ 4096) (hEP : 1 ≤ EP ∧ EP ≤ 281474976710655) (hl : xs.length ≤ 4398046511103) (HR : Hid (RdOe w1 ao xs)) (HC : Hid (w1.heap[P0]? = some (.cells #[.int .i64 (M : Int), .int .u64 (A : Int), .int .u64 1, .int .i64 0, .int .i64 1, .int .i64 1] 25 (0, 0))))
    (u0 u1 u3 u10 u13 u16 u17 u18 u19 u20 u21 u22 u23 u24 u25 u26 u27 u28 u29 u30 u31 u32 u33 u34 u35 u36 u37 u38 u39 u40 u41 u42 u43 u44 u45 u46 u47 u48 u49 u50 u51 u52 u53 u54 u55 u56 u57 u58 u59 u60 u61 u62 u63 u64 u65 u66 u67 u68 u69 u70 u71 u72 u73 u74 u75 u76 u77 u78 u79 u80 u81 u82 u83 u84 u85 u86 u87 u88 u89 u90 u91 u92 u93 u94 u95 u96 u97 u98 u99 u100 u101 u102 u103 u104 u105 u106 u107 u108 u109 u110 u111 u112 u113 u114 u115 u116 u117 u118 u119 u120 u121 u122 u123 u124 u125 u126 u127 u128 u129 u130 u131 u132 u133 u134 u135 u136 u137 u138 u139 u140 u141 u142 u143 u144 u145 u146 u147 u148 u149 u150 u151 u152 u153 u154 u155 u156 u157 u158 u159 u160 u161 u162 u163 u164 u165 u166 u167 u168 u169 u170 u171 u172 u173 u174 u175 u176 u177 u178 u179 u180 u181 u182 u183 u184 u185 u186 u187 u188 u189 u190 u191 u192 u193 u194 u195 u196 u197 u198 u199 u200 u201 u202 u203 u204 u205 u206 u207 u208 u209 u210 u211 u212 u213 u214 u215 u216 u217 u218 u219 u220 u221 u222 u223 u224 u225 u226 u227 u228 u229 u230 u231 u232 u233 u234 u235 u236 u237 u238 u239 u240 u241 u242 u243 u244 u245 u246 u247 u248 u249 u250 u251 u252 u253 u254 u255 u256 u257 u258 u259 u260 u261 u262 u263 u264 u265 u266 u267 u268 u269 u270 u271 u272 u273 u274 u275 u276 u277 u278 u279 u280 u281 u282 u283 u284 u285 u286 u287 u288 u289 u290 u291 u292 u293 u294 u295 u296 u297 u298 u299 u300 u301 u302 u303 u304 u305 u306 u307 u308 u309 u310 u311 u312 u313 u314 u315 u316 u317 u318 u319 u320 u321 u322 u323 u324 u325 u326 u327 u328 u329 u330 u331 u332 u333 u334 u335 u336 u337 u338 u339 u340 u341 u342 u343 u344 u345 u346 u347 u348 u349 u350 u351 u352 u353 u354 u355 u356 u357 u358 u359 u360 u361 u362 u363 u364 u365 u366 u367 u368 u369 u370 u371 u372 u373 u374 : Value) (wr : World) (k : Nat) (V : Nat → Nat → Value) (v : Value) (s : Xs) (hk : k ≤ xs.length) (HSB : Hid (s.beg ≤ k)) (HSC : Hid (s.mtu = M ∧ s.ack = A ∧ s.ep = EP)) (HE : Hid (Exb wr (fun b => b < w1.heap.size) p ms mn pw mw V q v s s)) (HB : Hid (Below w1.heap.size w1 wr)) (hlt0 : 0 < w1.heap.size) (hlt : k < xs.length) (hkd : xs[k].kd = 1) (hnn : 1 ≤ xs[k].n ∧ xs[k].n ≤ 281474976710655) (hky : goodK xs[k].k) (hbn : 1 ≤ xs[k].bn ∧ xs[k].bn ≤ 1024) (hik : xs[k].k ∉ s.L.map Xe.k) (hin : xs[k].n ∈ s.L.map Xe.n) (Q0 : Exit → Act → World → Prop) :
    Code.wp Tryz.prog (TBx Tryz.f3.body) (Exit.then (fun a' w'' => WIx w1 ao cap xs P0 p ms mn pw mw q M A EP a' w'' ∧ Wmux xs.length a' w'' < Wmux xs.length ⟨#[u0, u1, .int .u64 (EP : Int), u3, .slice ao xs.length cap, undef, undef, undef, undef, undef, u10, .pointer (some ⟨P0, 0, none⟩), .pointer (some ⟨p, 0, none⟩), u13, .pointer (some ⟨q, 0, none⟩), .int .i64 k, u16, u17, u18, u19, u20, u21, u22, u23, u24, u25, u26, u27, u28, u29, u30, u31, u32, u33, u34, u35, u36, u37, u38, u39, u40, u41, u42, u43, u44, u45, u46, u47, u48, u49, u50, u51, u52, u53, u54, u55, u56, u57, u58, u59, u60, u61, u62, u63, u64, u65, u66, u67, u68, u69, u70, u71, u72, u73, u74, u75, u76, u77, u78, u79, u80, u81, u82, u83, u84, u85, u86, u87, u88, u89, u90, u91, u92, u93, u94, u95, u96, u97, u98, u99, u100, u101, u102, u103, u104, u105, u106, u107, u108, u109, u110, u111, u112, u113, u114, u115, u116, u117, u118, u119, u120, u121, u122, u123, u124, u125, u126, u127, u128, u129, u130, u131, u132, u133, u134, u135, u136, u137, u138, u139, u140, u141, u142, u143, u144, u145, u146, u147, u148, u149, u150, u151, u152, u153, u154, u155, u156, u157, u158, u159, u160, u161, u162, u163, u164, u165, u166, u167, u168, u169, u170, u171, u172, u173, u174, u175, u176, u177, u178, u179, u180, u181, u182, u183, u184, u185, u186, u187, u188, u189, u190, u191, u192, u193, u194, u195, u196, u197, u198, u199, u200, u201, u202, u203, u204, u205, u206, u207, u208, u209, u210, u211, u212, u213, u214, u215, u216, u217, u218, u219, u220, u221, u222, u223, u224, u225, u226, u227, u228, u229, u230, u231, u232, u233, u234, u235, u236, u237, u238, u239, u240, u241, u242, u243, u244, u245, u246, u247, u248, u249, u250, u251, u252, u253, u254, u255, u256, u257, u258, u259, u260, u261, u262, u263, u264, u265, u266, u267, u268, u269, u270, u271, u272, u273, u274, u275, u276, u277, u278, u279, u280, u281, u282, u283, u284, u285, u286, u287, u288, u289, u290, u291, u292, u293, u294, u295, u296, u297, u298, u299, u300, u301, u302, u303, u304, u305, u306, u307, u308, u309, u310, u311, u312, u313, u314, u315, u316, u317, u318, u319, u320, u321, u322, u323, u324, u325, u326, u327, u328, u329, u330, u331, u332, u333, u334, u335, u336, u337, u338, u339, u340, u341, u342, u343, u344, u345, u346, u347, u348, u349, u350, u351, u352, u353, u354, u355, u356, u357, u358, u359, u360, u361, u362, u363, u364, u365, u366, u367, u368, u369, u370, u371, u372, u373, u374], []⟩ wr) Q0) ⟨#[u0, u1, .int .u64 (EP : Int), u3, .slice ao xs.length cap, undef, undef, undef, undef, undef, u10, .pointer (some ⟨P0, 0, none⟩), .pointer (some ⟨p, 0, none⟩), u13, .pointer (some ⟨q, 0, none⟩), .int .i64 k, u16, u17, u18, u19, u20, u21, u22, u23, u24, u25, u26, u27, u28, u29, u30, u31, u32, u33, u34, u35, u36, u37, u38, u39, u40, u41, u42, u43, u44, u45, u46, u47, u48, u49, u50, u51, u52, u53, u54, u55, u56, u57, u58, u59, u60, u61, u62, u63, u64, u65, u66, u67, u68, u69, u70, u71, u72, u73, u74, u75, u76, u77, u78, u79, u80, u81, u82, u83, u84, u85, u86, u87, u88, u89, u90, u91, u92, u93, u94, u95, u96, u97, u98, u99, u100, u101, u102, u103, u104, u105, u106, u107, u108, u109, u110, u111, u112, u113, u114, u115, u116, u117, u118, u119, u120, u121, u122, u123, u124, u125, u126, u127, u128, u129, u130, u131, u132, u133, u134, u135, u136, u137, u138, u139, u140, u141, u142, u143, u144, u145, u146, u147, u148, u149, u150, u151, u152, u153, u154, u155, u156, u157, u158, u159, u160, u161, u162, u163, u164, u165, u166, u167, u168, u169, u170, u171, u172, u173, u174, u175, u176, u177, u178, u179, u180, u181, u182, u183, u184, u185, u186, u187, u188, u189, u190, u191, u192, u193, u194, u195, u196, u197, u198, u199, u200, u201, u202, u203, u204, u205, u206, u207, u208, u209, u210, u211, u212, u213, u214, u215, u216, u217, u218, u219, u220, u221, u222, u223, u224, u225, u226, u227, u228, u229, u230, u231, u232, u233, u234, u235, u236, u237, u238, u239, u240, u241, u242, u243, u244, u245, u246, u247, u248, u249, u250, u251, u252, u253, u254, u255, u256, u257, u258, u259, u260, u261, u262, u263, u264, u265, u266, u267, u268, u269, u270, u271, u272, u273, u274, u275, u276, u277, u278, u279, u280, u281, u282, u283, u284, u285, u286, u287, u288, u289, u290, u291, u292, u293, u294, u295, u296, u297, u298, u299, u300, u301, u302, u303, u304, u305, u306, u307, u308, u309, u310, u311, u312, u313, u314, u315, u316, u317, u318, u319, u320, u321, u322, u323, u324, u325, u326, u327, u328, u329, u330, u331, u332, u333, u334, u335, u336, u337, u338, u339, u340, u341, u342, u343, u344, u345, u346, u347, u348, u349, u350, u351, u352, u353, u354, u355, u356, u357, u358, u359, u360, u361, u362, u363, u364, u365, u366, u367, u368, u369, u370, u371, u372, u373, u374], []⟩ wr := by
  conv => arg 2; whnf
  obtain ⟨b, o, rfl, hok, hrg⟩ := HR.out k hlt
  obtain ⟨y, hy⟩ : ∃ y, y = xs[k] := ⟨_, rfl⟩
  rw [← hy] at hok hrg hkd hnn hky hbn hik hin
  have HOK : Hid (OeOk w1 y) := hok
  have hk0 : (0 : Int) ≤ (k : Int) := by omega
  have hkI : (k : Int) < (xs.length : Int) := by omega
  have hkw : IntKind.i64.wrap ((k : Int) + 1) = ((k + 1 : Nat) : Int) := by rw [IntKind.wrap_i64]; omega
  have hLD := rangeAt_below hrg HB.out
  obtain ⟨wa, hwa⟩ : ∃ wa, wa = wr.alloc (.cells y.c tOe) := ⟨_, rfl⟩
  have hba : Below wr.heap.size wr wa := by rw [hwa]; exact alw (Below.refl _ _) _
  have hbxa : wa.heap[wr.heap.size]? = some (.cells y.c tOe (0, 0)) := by rw [hwa]; exact heap_alloc_new wr _
  have hoc := oeCells hbxa
  have hHa : Exb wa (fun b => b < w1.heap.size ∨ b = wr.heap.size) p ms mn pw mw V q v s s := by rw [hwa]; exact HE.out.box _
  have HEa : Hid _ := hHa
  have HBa : Hid (Below w1.heap.size w1 wa) := below_next HB.out hba
  have HXa : Hid _ := hbxa
  have HWA : Hid (wa = _) := hwa
  have HSZa : Hid (w1.heap.size ≤ wr.heap.size ∧ wr.heap.size < wa.heap.size) := ⟨HB.out.size, (Array.getElem?_eq_some_iff.1 hbxa).1⟩
  rw [hwa] at hoc
  clear hy hok hrg hwa hba hbxa hHa
  have k1 : (y.kd == 1) = true := by simp [hkd]
  clear hkd
  have hoca : ∀ u, Below wa.heap.size wa u → _ := fun u hu => oeCells ((hu.block _ HSZa.out.2).trans HXa.out)
  have HBG : Hid (∀ u, Below wa.heap.size wa u → ∀ (ao : Option Addr) (c : Nat), Calls Tryz.prog 8 #[.pointer (some ⟨p, 0, none⟩), .int .u64 (y.n : Int), fv y.k, .slice ao y.bn c, .int .u64 (y.now : Int)] u fun e w' => e = .returned (.tuple #[.slice none 0 0, .int .i64 3]) ∧ Below u.heap.size u w') := fun u hu ao c => by
    have h9 := HEa.out.a.below hu
    exact xbegin_twice h9 y.n y.k ao y.bn c y.now hnn hky hbn (.inl hin)
  have H_hnn : Hid _ := hnn
  have H_hky : Hid _ := hky
  have H_hbn : Hid _ := hbn
  have H_hik : Hid _ := hik
  have H_hin : Hid _ := hin
  have HGD : Hid (∀ u, Calls Tryz.prog 11 #[fv y.k] u fun e w' => e = .returned (.bool true) ∧ Below u.heap.size u w') := fun u => by
    have h9 := rgood_t y.k u
    rw [show decide (0 ≤ y.k.1 ∧ y.k.1 < 8 ∧ y.k.2 ≤ mxX) = true from decide_eq_true hky] at h9
    exact h9
  clear hnn hky hbn hik hin
  go_upto_region 14 with (first
    | (refine wpList_load_g (by rfl) tOe _ rfl b (o + k * 15) (by rfl) y.c.toList _ hLD Tryz.underlying43 rfl infoOe ?_))
  rw [← HWA.out] at hoc ⊢
  clear hLD
  refine wp_region_noPanic ?_
  refine wp_region_held_drew (S := (fun u => Below wa.heap.size wa u)) (by kernel_rfl) (by first | exact (Below.refl _ _).drew | exact HB3.out | exact HB4.out | assumption) (fun hHeld => ?_)
  refine tz (i := 0) 78 rfl rfl hHeld ?_
  simp only [pS]
  refine tz (i := 1) 79 rfl rfl hHeld ?_
  simp only [pS]
  refine tz (i := 2) 80 rfl rfl hHeld ?_
  simp only [pS]
  refine tz (i := 3) 81 rfl rfl hHeld ?_
  simp only [pS]
  refine tz (i := 4) 82 rfl rfl hHeld ?_
  simp only [pS]
  refine tz (i := 5) 83 rfl rfl hHeld ?_
  simp only [pS]
  refine tz (i := 6) 84 rfl rfl hHeld ?_
  simp only [pS]
  refine tz (i := 8) 86 rfl rfl hHeld ?_
  simp only [pS]
  refine tz (i := 9) 87 rfl rfl hHeld ?_
  simp only [pS]
  refine run_at (i := 7) rfl (by kernel_rfl) (by rfl) (fun K hK => ?_)
  simp only [List.getElem_toArray, List.getElem_cons_zero, List.getElem_cons_succ]
  first | (go_at_call 8; refine Calls.mono (HBG.out w3 HB3.out a3 c3) ?_; rintro e9 w4 ⟨rfl, hb4⟩; have HB4 : Hid (Below wa.heap.size wa w4) := below_next HB3.out hb4; clear hb4) | (refine wpo_appN _ _ rfl wa.heap.size (.slice none 0 0) [] y.xs y.ba y.bc rfl (World.ownsRow_nil _ _ _ _) (by rw [← HOK.out.bn]; rfl) (OeOk.below HOK.out HBa.out.drew).br HOK.out.bz (by have h7 := HOK.out.bl; have h8 := HOK.out.bb; have h9 := HOK.out.bn; simp only [List.length_nil]; omega) (by exact Nat.le_refl _) ?_; intro v3 w3 hown3 hg3; rw [List.nil_append] at hown3; obtain ⟨a3, c3, hv3, hlc3, -, -, hr3, -⟩ := hown3.val; rw [← HOK.out.bn] at hv3 hlc3; subst hv3; have HB3 : Hid (Below wa.heap.size wa w3) := (Below.refl _ _).drew.grown hg3 (Nat.le_refl _) (fun j hj => by cases hj); have HR3 : Hid (Rd w3 a3 y.xs) := hr3; have HLC : Hid (y.bn ≤ c3) := hlc3; clear hown3 hg3 hr3 hlc3)
  refine hK.out _ _ (by first | exact (Below.refl _ _).drew | exact HB3.out | exact HB4.out | assumption) ?_
  clear hK K
  intro hHeld2
  clear hHeld
  have hHeld := hHeld2
  clear hHeld2
  try simp only [pS]
  refine run_at (i := 10) rfl (by kernel_rfl) (by rfl) (fun K hK => ?_)
  simp only [List.getElem_toArray, List.getElem_cons_zero, List.getElem_cons_succ]
  go_simp
  first | (go_at_call 8; refine Calls.mono (HBG.out w3 HB3.out a3 c3) ?_; rintro e9 w4 ⟨rfl, hb4⟩; have HB4 : Hid (Below wa.heap.size wa w4) := below_next HB3.out hb4; clear hb4) | (refine wpo_appN _ _ rfl wa.heap.size (.slice none 0 0) [] y.xs y.ba y.bc rfl (World.ownsRow_nil _ _ _ _) (by rw [← HOK.out.bn]; rfl) (OeOk.below HOK.out HBa.out.drew).br HOK.out.bz (by have h7 := HOK.out.bl; have h8 := HOK.out.bb; have h9 := HOK.out.bn; simp only [List.length_nil]; omega) (by exact Nat.le_refl _) ?_; intro v3 w3 hown3 hg3; rw [List.nil_append] at hown3; obtain ⟨a3, c3, hv3, hlc3, -, -, hr3, -⟩ := hown3.val; rw [← HOK.out.bn] at hv3 hlc3; subst hv3; have HB3 : Hid (Below wa.heap.size wa w3) := (Below.refl _ _).drew.grown hg3 (Nat.le_refl _) (fun j hj => by cases hj); have HR3 : Hid (Rd w3 a3 y.xs) := hr3; have HLC : Hid (y.bn ≤ c3) := hlc3; clear hown3 hg3 hr3 hlc3)
  go_wp2_with fail
  refine hK.out _ _ (by first | exact (Below.refl _ _).drew | exact HB3.out | exact HB4.out | assumption) ?_
  clear hK K
  intro hHeld2
  clear hHeld
  have hHeld := hHeld2
  clear hHeld2
  try simp only [pS]
  refine tz (i := 11) 77 rfl rfl hHeld ?_
  simp only [pS]
  refine tz (i := 12) 89 rfl rfl hHeld ?_
  simp only [pS]
  refine tz (i := 13) 90 rfl rfl hHeld ?_
  simp only [pS]
  refine tz (i := 14) 17 rfl rfl hHeld ?_
  simp only [pS]
  refine tz (i := 15) 18 rfl rfl hHeld ?_
  simp only [pS]
  refine wpAnyH_done (by kernel_rfl) ?_ _
  refine NoPanic.normal ?_
  clear hHeld hoca
  have HE4 : Hid (Exb w4 (fun b => b < w1.heap.size ∨ b = wr.heap.size) p ms mn pw mw V q v s s) := HEa.out.below HB4.out
  have HX4 : Hid (w4.heap[wr.heap.size]? = _) := (HB4.out.block _ HSZa.out.2).trans HXa.out
  have HBw4 : Hid (Below w1.heap.size w1 w4) := below_next HBa.out HB4.out
  have hoc1 := oeCells HX4.out
  have HOF1 : Hid _ := bof_no HE4.out.b y.k H_hik.out
  go_wp2_with fail
  refine Calls.mono HOF1.out ?_
  rintro e9 wf1 ⟨rfl, hbf1⟩
  obtain ⟨wg1, hwg1⟩ : ∃ u, u = wf1.alloc (.cells #[.int .u64 0, .int .i64 0, .int .u64 0, .int .u64 0] tBs) := ⟨_, rfl⟩
  have hbg1 : Below w4.heap.size w4 wg1 := by rw [hwg1]; exact alw hbf1 _
  have HEg1 : Hid _ := HE4.out.below hbg1
  have HXg1 : Hid (wg1.heap[wr.heap.size]? = _) := (hbg1.block _ (Array.getElem?_eq_some_iff.1 HX4.out).1).trans HX4.out
  have HBg1 : Hid (Below w1.heap.size w1 wg1) := below_next HBw4.out hbg1
  have HBl1 : Hid _ := hbg1
  have HWg1 : Hid (wg1 = _) := hwg1
  clear hbf1 hbg1 hwg1 hoc1
  have hocg1 := oeCells HXg1.out
  rw [HWg1.out] at hocg1
  obtain ⟨x2, hx2, hxe2⟩ := List.mem_map.1 H_hin.out
  have HOF2 : Hid _ := bnum_in HEg1.out.b x2 hx2
  rw [hxe2] at HOF2
  clear hx2 hxe2
  go_wp2_with fail
  rw [← HWg1.out] at hocg1 ⊢
  clear hocg1
  refine Calls.mono HOF2.out ?_
  rintro e9 wf2 ⟨rfl, hbf2⟩
  obtain ⟨wg2, hwg2⟩ : ∃ u, u = wf2.alloc (.cells #[.int .u64 (x2.n : Int), .int .i64 x2.k.1, .int .u64 (x2.k.2 : Int), .int .u64 (x2.ov : Int)] tBs) := ⟨_, rfl⟩
  have hbg2 : Below wg1.heap.size wg1 wg2 := by rw [hwg2]; exact alw hbf2 _
  have HEg2 : Hid _ := HEg1.out.below hbg2
  have HXg2 : Hid (wg2.heap[wr.heap.size]? = _) := (hbg2.block _ (Array.getElem?_eq_some_iff.1 HXg1.out).1).trans HXg1.out
  have HBg2 : Hid (Below w1.heap.size w1 wg2) := below_next HBg1.out hbg2
  have HBl2 : Hid _ := hbg2
  have HWg2 : Hid (wg2 = _) := hwg2
  clear hbf2 hbg2 hwg2
  have hocg2 := oeCells HXg2.out
  rw [HWg2.out] at hocg2
  have zn0 : (0 : Int) < (y.n : Int) := by have := H_hnn.out; omega
  have zb0 : (0 : Int) < (y.bn : Int) := by have := H_hbn.out; omega
  have zb1 : (y.bn : Int) ≤ 1024 := by have := H_hbn.out; omega
  go_upto_region 17 with (fail)
  iterate 27 (first | go_skip | go_guarded | go_step)
  rw [show decide ((y.n : Int) < 281474976710656) = true from decide_eq_true (by have := H_hnn.out; omega)]
  go_wp2_with fail
  rw [← HWg2.out] at hocg2 ⊢
  clear hocg2
  refine Calls.mono (HGD.out _) ?_
  rintro e9 w9 ⟨rfl, hb9⟩
  have HEg9 : Hid _ := HEg2.out.below hb9
  have HXg9 : Hid (w9.heap[wr.heap.size]? = _) := (hb9.block _ (Array.getElem?_eq_some_iff.1 HXg2.out).1).trans HXg2.out
  have HBg9 : Hid (Below w1.heap.size w1 w9) := below_next HBg2.out hb9
  have hocg9 := oeCells HXg9.out
  clear hb9
  go_upto_region 58 with (fail)
  clear hocg9
  obtain ⟨n9, hn9⟩ : ∃ n9, n9 = (s).L.length := ⟨_, rfl⟩
  have hn64 : n9 ≤ 64 := by rw [hn9]; exact HEg9.out.a.inv.len
  obtain ⟨a9, cp9, hv9, -, -, -, hrd9⟩ := OwnG.val HEg9.out.b.row
  have hv9' : v = .slice a9 n9 cp9 := by rw [hn9]; exact hv9
  have hcs9 : ∀ u, Below w9.heap.size w9 u → u.cell? ⟨q, 0, none⟩ = some (.slice a9 n9 cp9) := fun u hu => by rw [← hv9']; exact (HEg9.out.b.below hu).cell 0
  have hc9a := hcs9 w9 (Below.refl _ _)
  have HN9 : Hid _ := hn9
  have HR9 : Hid (RdG KBs w9 a9 (s).L) := hrd9
  clear hn9 hv9 hv9' hrd9
  go_wp2
  go_loopw [37, 38] (fun u j wv => ∃ i : Nat, i ≤ n9 ∧ j = .int .i64 (i : Int) ∧ OwnG KKy wv w9.heap.size u (((s).L.take i).map Xe.k) ∧ Below w9.heap.size w9 wv) (fun _ j _ => n9 - (intOf j).toNat)
  case atStart => exact ⟨0, Nat.zero_le _, rfl, World.ownsRow_nil _ _ _ _, Below.refl _ _⟩
  case round =>
    rename World => wv
    obtain ⟨i, hin, rfl, hown, hbv⟩ := hrel
    have hiw : IntKind.i64.wrap ((i : Int) + 1) = ((i + 1 : Nat) : Int) := by rw [IntKind.wrap_i64]; omega
    have hc9 := hcs9 wv hbv
    by_cases hlt9 : i < n9
    · have hlti : (i : Int) < (n9 : Int) := by omega
      have hi0 : (0 : Int) ≤ (i : Int) := by omega
      have hi1 : i < (s).L.length := by rw [← HN9.out]; exact hlt9
      obtain ⟨b9, o9, rfl, r1, -⟩ := RdG.below HR9.out hbv i hi1
      obtain ⟨x, hx⟩ : ∃ x : Xe, x = (s).L[i] := ⟨_, rfl⟩
      have g1 := r1 1 (.int .i64 x.k.1) (by rw [hx]; rfl)
      have g2 : wv.cell? ⟨b9, o9 + i * 4 + 1 + 1, none⟩ = some (.int .u64 (x.k.2 : Int)) := r1 2 (.int .u64 (x.k.2 : Int)) (by rw [hx]; rfl)
      have HT : Hid (((s).L.take i).map Xe.k ++ [x.k] = ((s).L.take (i + 1)).map Xe.k) := by unfold Hid; rw [List.take_succ_eq_append_getElem hi1, ← hx]; simp
      have HSZ : Hid (w9.heap.size ≤ wv.heap.size) := hbv.size
      have HO : Hid (OwnG KKy (wv.alloc (.cells #[.int .i64 x.k.1, .int .u64 (x.k.2 : Int)] tFk)) w9.heap.size u37 (((s).L.take i).map Xe.k)) := hown.below (alw (Below.refl _ _) _)
      have HL9 : Hid (∀ b, u37.ownBlock = some b → w9.heap.size ≤ b) := fun b hb => (hown.lt' hb).1
      obtain ⟨m9, hm9⟩ : ∃ m9, m9 = (((s).L.take i).map Xe.k).length := ⟨_, rfl⟩
      have hm64 : m9 ≤ 64 := by rw [hm9, List.length_map, List.length_take]; omega
      have HM9 : Hid _ := hm9
      have HBV : Hid _ := hbv
      clear r1 hx hi1 hown hbv hm9 hcs9
      go_wp2_with (at_builtin; refine wp_appG1 (K := KKy) rfl _ _ rfl w9.heap.size u37 (((s).L.take i).map Xe.k) x.k m9 HM9.out ⟨wv.heap.size, 0, none⟩ 1 rfl HO.out rfl (rdF_new wv x.k _ rfl) (by show (m9 + 1) * 16 ≤ _; omega) (by simp only [maxLen]; omega) (by have := HSZ.out; simp; omega) ?_; intro g7 c7 w7 hown7 hg7 hlie7; rw [HT.out] at hown7; have HO7 : Hid _ := hown7; have HG7 : Hid _ := hg7; clear hown7 hg7 hlie7)
      go_roundw
      case rel => exact ⟨i + 1, hlt9, by go_num, HO7.out, (alw HBV.out _).grown HG7.out (by have := HSZ.out; simp; omega) (fun j hj => HL9.out j hj)⟩
      case measure => simp [intOf]; omega
    · have hlti : ¬ (i : Int) < (n9 : Int) := by omega
      have htk : (s).L.take i = (s).L := List.take_of_length_le (by rw [← HN9.out]; omega)
      rw [htk] at hown
      have HEv : Hid _ := HEg9.out.below hbv
      have HOV : Hid _ := hown
      obtain ⟨n8, hn8⟩ : ∃ n8, n8 = ((s).L.map Xe.k).length := ⟨_, rfl⟩
      have hn864 : n8 ≤ 64 := by rw [hn8, List.length_map, ← HN9.out]; exact hn64
      obtain ⟨ab, cb, hvb, -, -, -, hrb⟩ := hown.val
      rw [← hn8] at hvb
      subst hvb
      have HN8 : Hid _ := hn8
      have HRB : Hid (RdG KKy wv ab ((s).L.map Xe.k)) := hrb
      have HBV : Hid _ := hbv
      clear htk hown hbv hcs9 hn8 hrb
      go_wp2_with (first
        | (go_at_call 18; refine Calls.mono (xbusy_t HEv.out.a) ?_; rintro e9 w5 ⟨va, rfl, howna, hb5⟩; obtain ⟨aa, ca, hva, -, -, -, hra⟩ := howna.val; rw [← HN8.out] at hva; subst hva; have HRA : Hid (RdG KKy w5 aa ((s).L.map Xe.k)) := hra; have HB5 : Hid _ := hb5; clear howna hb5 hra)
        | (go_at_call 15; refine Calls.mono (sameKeys_t aa ab n8 ca cb ((s).L.map Xe.k) HN8.out (by omega) HRA.out (RdG.below HRB.out HB5.out)) ?_; rintro e9 w7 ⟨rfl, hb7⟩; have HB7 : Hid _ := hb7; clear hb7))
      refine ⟨?_, ?_⟩
      · unfold WIx
        iterate 365 (apply Exists.intro)
        have h9 := HEv.out.below (below_next HB5.out HB7.out)
        exact ⟨⟨k + 1, V, v, s, by omega, by go_num, Nat.le_trans HSB.out (Nat.le_succ _), HSC.out, h9.less (fun b hb => .inl hb) (Nat.lt_of_lt_of_le (Nat.lt_of_le_of_lt (Nat.zero_le _) hlt0) (Nat.le_refl _)), HBg9.out.trans ((below_next HBV.out (below_next HB5.out HB7.out)).mono HBg9.out.size)⟩, rfl⟩
      · simp [Wmux, intOf]; omega
end Go.Proofs.YtiedgcanndgmoaaGreatDoor
