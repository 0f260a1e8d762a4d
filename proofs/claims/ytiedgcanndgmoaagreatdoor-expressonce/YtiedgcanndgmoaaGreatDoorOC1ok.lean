import Derived.Test.YtiedgcanndgmoaaGreatDoorOC4i
namespace Go.Proofs.YtiedgcanndgmoaaGreatDoor
set_option linter.unusedVariables false
set_option linter.unusedSimpArgs false
open Go.RowKit Go.Maps
set_option maxRecDepth 100000 in
set_option maxHeartbeats 12800000 in
theorem ocase1fu (w1 : World) (ao : Option Addr) (cap : Nat) (xs : List Oe) (P0 p ms mn pw mw q M A EP : Nat) (hM : 16 ≤ M ∧ M ≤ 1024) (hAk : A ≤ 4096) (hEP : 1 ≤ EP ∧ EP ≤ 281474976710655) (hl : xs.length ≤ 4398046511103) (HR : Hid (RdOe w1 ao xs)) (HC : Hid (w1.heap[P0]? = some (.cells #[.int .i64 (M : Int), .int .u64 (A : Int), .int .u64 1, .int .i64 0, .int .i64 1, .int .i64 1] 25 (0, 0))))
    (u0 u1 u3 u10 u13 u16 u17 u18 u19 u20 u21 u22 u23 u24 u25 u26 u27 u28 u29 u30 u31 u32 u33 u34 u35 u36 u37 u38 u39 u40 u41 u42 u43 u44 u45 u46 u47 u48 u49 u50 u51 u52 u53 u54 u55 u56 u57 u58 u59 u60 u61 u62 u63 u64 u65 u66 u67 u68 u69 u70 u71 u72 u73 u74 u75 u76 u77 u78 u79 u80 u81 u82 u83 u84 u85 u86 u87 u88 u89 u90 u91 u92 u93 u94 u95 u96 u97 u98 u99 u100 u101 u102 u103 u104 u105 u106 u107 u108 u109 u110 u111 u112 u113 u114 u115 u116 u117 u118 u119 u120 u121 u122 u123 u124 u125 u126 u127 u128 u129 u130 u131 u132 u133 u134 u135 u136 u137 u138 u139 u140 u141 u142 u143 u144 u145 u146 u147 u148 u149 u150 u151 u152 u153 u154 u155 u156 u157 u158 u159 u160 u161 u162 u163 u164 u165 u166 u167 u168 u169 u170 u171 u172 u173 u174 u175 u176 u177 u178 u179 u180 u181 u182 u183 u184 u185 u186 u187 u188 u189 u190 u191 u192 u193 u194 u195 u196 u197 u198 u199 u200 u201 u202 u203 u204 u205 u206 u207 u208 u209 u210 u211 u212 u213 u214 u215 u216 u217 u218 u219 u220 u221 u222 u223 u224 u225 u226 u227 u228 u229 u230 u231 u232 u233 u234 u235 u236 u237 u238 u239 u240 u241 u242 u243 u244 u245 u246 u247 u248 u249 u250 u251 u252 u253 u254 u255 u256 u257 u258 u259 u260 u261 u262 u263 u264 u265 u266 u267 u268 u269 u270 u271 u272 u273 u274 u275 u276 u277 u278 u279 u280 u281 u282 u283 u284 u285 u286 u287 u288 u289 u290 u291 u292 u293 u294 u295 u296 u297 u298 u299 u300 u301 u302 u303 u304 u305 u306 u307 u308 u309 u310 u311 u312 u313 u314 u315 u316 u317 u318 u319 u320 u321 u322 u323 u324 u325 u326 u327 u328 u329 u330 u331 u332 u333 u334 u335 u336 u337 u338 u339 u340 u341 u342 u343 u344 u345 u346 u347 u348 u349 u350 u351 u352 u353 u354 u355 u356 u357 u358 u359 u360 u361 u362 u363 u364 u365 u366 u367 u368 u369 u370 u371 u372 u373 u374 : Value) (wr : World) (k : Nat) (V : Nat → Nat → Value) (v : Value) (s : Xs) (hk : k ≤ xs.length) (HSB : Hid (s.beg ≤ k)) (HSC : Hid (s.mtu = M ∧ s.ack = A ∧ s.ep = EP)) (HE : Hid (Exb wr (fun b => b < w1.heap.size) p ms mn pw mw V q v s s)) (HB : Hid (Below w1.heap.size w1 wr)) (hlt0 : 0 < w1.heap.size) (hlt : k < xs.length) (hkd : xs[k].kd = 1) (hnn : 1 ≤ xs[k].n ∧ xs[k].n ≤ 281474976710655) (hky : goodK xs[k].k) (hbn : 1 ≤ xs[k].bn ∧ xs[k].bn ≤ 1024) (hik : xs[k].k ∉ s.L.map Xe.k) (hin : xs[k].n ∉ s.L.map Xe.n) (hfu : 64 ≤ s.L.length) (Q0 : Exit → Act → World → Prop) :
    Code.wp Tryz.prog (TBx Tryz.f3.body) (Exit.then (fun a' w'' => WIx w1 ao cap xs P0 p ms mn pw mw q M A EP a' w'' ∧ Wmux xs.length a' w'' < Wmux xs.length ⟨#[u0, u1, .int .u64 (EP : Int), u3, .slice ao xs.length cap, undef, undef, undef, undef, undef, u10, .pointer (some ⟨P0, 0, none⟩), .pointer (some ⟨p, 0, none⟩), u13, .pointer (some ⟨q, 0, none⟩), .int .i64 k, u16, u17, u18, u19, u20, u21, u22, u23, u24, u25, u26, u27, u28, u29, u30, u31, u32, u33, u34, u35, u36, u37, u38, u39, u40, u41, u42, u43, u44, u45, u46, u47, u48, u49, u50, u51, u52, u53, u54, u55, u56, u57, u58, u59, u60, u61, u62, u63, u64, u65, u66, u67, u68, u69, u70, u71, u72, u73, u74, u75, u76, u77, u78, u79, u80, u81, u82, u83, u84, u85, u86, u87, u88, u89, u90, u91, u92, u93, u94, u95, u96, u97, u98, u99, u100, u101, u102, u103, u104, u105, u106, u107, u108, u109, u110, u111, u112, u113, u114, u115, u116, u117, u118, u119, u120, u121, u122, u123, u124, u125, u126, u127, u128, u129, u130, u131, u132, u133, u134, u135, u136, u137, u138, u139, u140, u141, u142, u143, u144, u145, u146, u147, u148, u149, u150, u151, u152, u153, u154, u155, u156, u157, u158, u159, u160, u161, u162, u163, u164, u165, u166, u167, u168, u169, u170, u171, u172, u173, u174, u175, u176, u177, u178, u179, u180, u181, u182, u183, u184, u185, u186, u187, u188, u189, u190, u191, u192, u193, u194, u195, u196, u197, u198, u199, u200, u201, u202, u203, u204, u205, u206, u207, u208, u209, u210, u211, u212, u213, u214, u215, u216, u217, u218, u219, u220, u221, u222, u223, u224, u225, u226, u227, u228, u229, u230, u231, u232, u233, u234, u235, u236, u237, u238, u239, u240, u241, u242, u243, u244, u245, u246, u247, u248, u249, u250, u251, u252, u253, u254, u255, u256, u257, u258, u259, u260, u261, u262, u263, u264, u265, u266, u267, u268, u269, u270, u271, u272, u273, u274, u275, u276, u277, u278, u279, u280, u281, u282, u283, u284, u285, u286, u287, u288, u289, u290, u291, u292, u293, u294, u295, u296, u297, u298, u299, u300, u301, u302, u303, u304, u305, u306, u307, u308, u309, u310, u311, u312, u313, u314, u315, u316, u317, u318, u319, u320, u321, u322, u323, u324, u325, u326, u327, u328, u329, u330, u331, u332, u333, u334, u335, u336, u337, u338, u339, u340, u341, u342, u343, u344, u345, u346, u347, u348, u349, u350, u351, u352, u353, u354, u355, u356, u357, u358, u359, u360, u361, u362, u363, u364, u365, u366, u367, u368, u369, u370, u371, u372, u373, u374], []⟩ wr) Q0) ⟨#[u0, u1, .int .u64 (EP : Int), u3, .slice ao xs.length cap, undef, undef, undef, undef, undef, u10, .pointer (some ⟨P0, 0, none⟩), .pointer (some ⟨p, 0, none⟩), u13, .pointer (some ⟨q, 0, none⟩), .int .i64 k, u16, u17, u18, u19, u20, u21, u22, u23, u24, u25, u26, u27, u28, u29, u30, u31, u32, u33, u34, u35, u36, u37, u38, u39, u40, u41, u42, u43, u44, u45, u46, u47, u48, u49, u50, u51, u52, u53, u54, u55, u56, u57, u58, u59, u60, u61, u62, u63, u64, u65, u66, u67, u68, u69, u70, u71, u72, u73, u74, u75, u76, u77, u78, u79, u80, u81, u82, u83, u84, u85, u86, u87, u88, u89, u90, u91, u92, u93, u94, u95, u96, u97, u98, u99, u100, u101, u102, u103, u104, u105, u106, u107, u108, u109, u110, u111, u112, u113, u114, u115, u116, u117, u118, u119, u120, u121, u122, u123, u124, u125, u126, u127, u128, u129, u130, u131, u132, u133, u134, u135, u136, u137, u138, u139, u140, u141, u142, u143, u144, u145, u146, u147, u148, u149, u150, u151, u152, u153, u154, u155, u156, u157, u158, u159, u160, u161, u162, u163, u164, u165, u166, u167, u168, u169, u170, u171, u172, u173, u174, u175, u176, u177, u178, u179, u180, u181, u182, u183, u184, u185, u186, u187, u188, u189, u190, u191, u192, u193, u194, u195, u196, u197, u198, u199, u200, u201, u202, u203, u204, u205, u206, u207, u208, u209, u210, u211, u212, u213, u214, u215, u216, u217, u218, u219, u220, u221, u222, u223, u224, u225, u226, u227, u228, u229, u230, u231, u232, u233, u234, u235, u236, u237, u238, u239, u240, u241, u242, u243, u244, u245, u246, u247, u248, u249, u250, u251, u252, u253, u254, u255, u256, u257, u258, u259, u260, u261, u262, u263, u264, u265, u266, u267, u268, u269, u270, u271, u272, u273, u274, u275, u276, u277, u278, u279, u280, u281, u282, u283, u284, u285, u286, u287, u288, u289, u290, u291, u292, u293, u294, u295, u296, u297, u298, u299, u300, u301, u302, u303, u304, u305, u306, u307, u308, u309, u310, u311, u312, u313, u314, u315, u316, u317, u318, u319, u320, u321, u322, u323, u324, u325, u326, u327, u328, u329, u330, u331, u332, u333, u334, u335, u336, u337, u338, u339, u340, u341, u342, u343, u344, u345, u346, u347, u348, u349, u350, u351, u352, u353, u354, u355, u356, u357, u358, u359, u360, u361, u362, u363, u364, u365, u366, u367, u368, u369, u370, u371, u372, u373, u374], []⟩ wr := by
  conv => arg 2; whnf
  obtain ⟨b, o, rfl, hok, hrg⟩ := HR.out k hlt
  obtain ⟨y, hy⟩ : ∃ y, y = xs[k] := ⟨_, rfl⟩
  rw [← hy] at hok hrg hkd hnn hky hbn hik hin
  have HOK : Hid (OeOk w1 y) := hok
  have hk0 : (0 : Int) ≤ (k : Int) := by omega
  have hkI : (k : Int) < (xs.length : Int) := by omega
  have hkw : IntKind.i64.wrap ((k : Int) + 1) = ((k + 1 : Nat) : Int) := by rw [IntKind.wrap_i64]; omega
  have hLD := rangeAt_below hrg HB.out
  obtain ⟨wa, hwa⟩ : ∃ wa, wa = wr.alloc (.cells y.c tOe) := ⟨_, rfl⟩
  have hba : Below wr.heap.size wr wa := by rw [hwa]; exact alw (Below.refl _ _) _
  have hbxa : wa.heap[wr.heap.size]? = some (.cells y.c tOe (0, 0)) := by rw [hwa]; exact heap_alloc_new wr _
  have hoc := oeCells hbxa
  have hHa : Exb wa (fun b => b < w1.heap.size ∨ b = wr.heap.size) p ms mn pw mw V q v s s := by rw [hwa]; exact HE.out.box _
  have HEa : Hid _ := hHa
  have HBa : Hid (Below w1.heap.size w1 wa) := below_next HB.out hba
  have HXa : Hid _ := hbxa
  have HWA : Hid (wa = _) := hwa
  have HSZa : Hid (w1.heap.size ≤ wr.heap.size ∧ wr.heap.size < wa.heap.size) := ⟨HB.out.size, (Array.getElem?_eq_some_iff.1 hbxa).1⟩
  rw [hwa] at hoc
  clear hy hok hrg hwa hba hbxa hHa
  have k1 : (y.kd == 1) = true := by simp [hkd]
  clear hkd
  have hoca : ∀ u, Below wa.heap.size wa u → _ := fun u hu => oeCells ((hu.block _ HSZa.out.2).trans HXa.out)
  have HBG : Hid (∀ u, Below wa.heap.size wa u → ∀ (ao : Option Addr) (c : Nat), Calls Tryz.prog 8 #[.pointer (some ⟨p, 0, none⟩), .int .u64 (y.n : Int), fv y.k, .slice ao y.bn c, .int .u64 (y.now : Int)] u fun e w' => e = .returned (.tuple #[.slice none 0 0, .int .i64 2]) ∧ Below u.heap.size u w') := fun u hu ao c => by
    have h9 := HEa.out.a.below hu
    exact xbegin_full h9 y.n y.k ao y.bn c y.now hnn hky hbn ⟨hin, hik⟩ hfu
  have H_hnn : Hid _ := hnn
  have H_hky : Hid _ := hky
  have H_hbn : Hid _ := hbn
  have H_hik : Hid _ := hik
  have H_hin : Hid _ := hin
  have H_hfu : Hid _ := hfu
  have HGD : Hid (∀ u, Calls Tryz.prog 11 #[fv y.k] u fun e w' => e = .returned (.bool true) ∧ Below u.heap.size u w') := fun u => by
    have h9 := rgood_t y.k u
    rw [show decide (0 ≤ y.k.1 ∧ y.k.1 < 8 ∧ y.k.2 ≤ mxX) = true from decide_eq_true hky] at h9
    exact h9
  clear hnn hky hbn hik hin hfu
  go_upto_region 14 with (first
    | (refine wpList_load_g (by rfl) tOe _ rfl b (o + k * 15) (by rfl) y.c.toList _ hLD Tryz.underlying43 rfl infoOe ?_))
  rw [← HWA.out] at hoc ⊢
  clear hLD
  refine wp_region_noPanic ?_
  refine wp_region_held_drew (S := (fun u => Below wa.heap.size wa u)) (by kernel_rfl) (by first | exact (Below.refl _ _).drew | exact HB3.out | exact HB4.out | assumption) (fun hHeld => ?_)
  refine tz (i := 0) 78 rfl rfl hHeld ?_
  simp only [pS]
  refine tz (i := 1) 79 rfl rfl hHeld ?_
  simp only [pS]
  refine tz (i := 2) 80 rfl rfl hHeld ?_
  simp only [pS]
  refine tz (i := 3) 81 rfl rfl hHeld ?_
  simp only [pS]
  refine tz (i := 4) 82 rfl rfl hHeld ?_
  simp only [pS]
  refine tz (i := 5) 83 rfl rfl hHeld ?_
  simp only [pS]
  refine tz (i := 6) 84 rfl rfl hHeld ?_
  simp only [pS]
  refine tz (i := 8) 86 rfl rfl hHeld ?_
  simp only [pS]
  refine tz (i := 9) 87 rfl rfl hHeld ?_
  simp only [pS]
  refine run_at (i := 7) rfl (by kernel_rfl) (by rfl) (fun K hK => ?_)
  simp only [List.getElem_toArray, List.getElem_cons_zero, List.getElem_cons_succ]
  first | (go_at_call 8; refine Calls.mono (HBG.out w3 HB3.out a3 c3) ?_; rintro e9 w4 ⟨rfl, hb4⟩; have HB4 : Hid (Below wa.heap.size wa w4) := below_next HB3.out hb4; clear hb4) | (refine wpo_appN _ _ rfl wa.heap.size (.slice none 0 0) [] y.xs y.ba y.bc rfl (World.ownsRow_nil _ _ _ _) (by rw [← HOK.out.bn]; rfl) (OeOk.below HOK.out HBa.out.drew).br HOK.out.bz (by have h7 := HOK.out.bl; have h8 := HOK.out.bb; have h9 := HOK.out.bn; simp only [List.length_nil]; omega) (by exact Nat.le_refl _) ?_; intro v3 w3 hown3 hg3; rw [List.nil_append] at hown3; obtain ⟨a3, c3, hv3, hlc3, -, -, hr3, -⟩ := hown3.val; rw [← HOK.out.bn] at hv3 hlc3; subst hv3; have HB3 : Hid (Below wa.heap.size wa w3) := (Below.refl _ _).drew.grown hg3 (Nat.le_refl _) (fun j hj => by cases hj); have HR3 : Hid (Rd w3 a3 y.xs) := hr3; have HLC : Hid (y.bn ≤ c3) := hlc3; clear hown3 hg3 hr3 hlc3)
  refine hK.out _ _ (by first | exact (Below.refl _ _).drew | exact HB3.out | exact HB4.out | assumption) ?_
  clear hK K
  intro hHeld2
  clear hHeld
  have hHeld := hHeld2
  clear hHeld2
  try simp only [pS]
  refine run_at (i := 10) rfl (by kernel_rfl) (by rfl) (fun K hK => ?_)
  simp only [List.getElem_toArray, List.getElem_cons_zero, List.getElem_cons_succ]
  go_simp
  first | (go_at_call 8; refine Calls.mono (HBG.out w3 HB3.out a3 c3) ?_; rintro e9 w4 ⟨rfl, hb4⟩; have HB4 : Hid (Below wa.heap.size wa w4) := below_next HB3.out hb4; clear hb4) | (refine wpo_appN _ _ rfl wa.heap.size (.slice none 0 0) [] y.xs y.ba y.bc rfl (World.ownsRow_nil _ _ _ _) (by rw [← HOK.out.bn]; rfl) (OeOk.below HOK.out HBa.out.drew).br HOK.out.bz (by have h7 := HOK.out.bl; have h8 := HOK.out.bb; have h9 := HOK.out.bn; simp only [List.length_nil]; omega) (by exact Nat.le_refl _) ?_; intro v3 w3 hown3 hg3; rw [List.nil_append] at hown3; obtain ⟨a3, c3, hv3, hlc3, -, -, hr3, -⟩ := hown3.val; rw [← HOK.out.bn] at hv3 hlc3; subst hv3; have HB3 : Hid (Below wa.heap.size wa w3) := (Below.refl _ _).drew.grown hg3 (Nat.le_refl _) (fun j hj => by cases hj); have HR3 : Hid (Rd w3 a3 y.xs) := hr3; have HLC : Hid (y.bn ≤ c3) := hlc3; clear hown3 hg3 hr3 hlc3)
  go_wp2_with fail
  refine hK.out _ _ (by first | exact (Below.refl _ _).drew | exact HB3.out | exact HB4.out | assumption) ?_
  clear hK K
  intro hHeld2
  clear hHeld
  have hHeld := hHeld2
  clear hHeld2
  try simp only [pS]
  refine tz (i := 11) 77 rfl rfl hHeld ?_
  simp only [pS]
  refine tz (i := 12) 89 rfl rfl hHeld ?_
  simp only [pS]
  refine tz (i := 13) 90 rfl rfl hHeld ?_
  simp only [pS]
  refine tz (i := 14) 17 rfl rfl hHeld ?_
  simp only [pS]
  refine tz (i := 15) 18 rfl rfl hHeld ?_
  simp only [pS]
  refine wpAnyH_done (by kernel_rfl) ?_ _
  refine NoPanic.normal ?_
  clear hHeld hoca
  have HE4 : Hid (Exb w4 (fun b => b < w1.heap.size ∨ b = wr.heap.size) p ms mn pw mw V q v s s) := HEa.out.below HB4.out
  have HX4 : Hid (w4.heap[wr.heap.size]? = _) := (HB4.out.block _ HSZa.out.2).trans HXa.out
  have HBw4 : Hid (Below w1.heap.size w1 w4) := below_next HBa.out HB4.out
  have hoc1 := oeCells HX4.out
  have HOF1 : Hid _ := bof_no HE4.out.b y.k H_hik.out
  go_wp2_with fail
  refine Calls.mono HOF1.out ?_
  rintro e9 wf1 ⟨rfl, hbf1⟩
  obtain ⟨wg1, hwg1⟩ : ∃ u, u = wf1.alloc (.cells #[.int .u64 0, .int .i64 0, .int .u64 0, .int .u64 0] tBs) := ⟨_, rfl⟩
  have hbg1 : Below w4.heap.size w4 wg1 := by rw [hwg1]; exact alw hbf1 _
  have HEg1 : Hid _ := HE4.out.below hbg1
  have HXg1 : Hid (wg1.heap[wr.heap.size]? = _) := (hbg1.block _ (Array.getElem?_eq_some_iff.1 HX4.out).1).trans HX4.out
  have HBg1 : Hid (Below w1.heap.size w1 wg1) := below_next HBw4.out hbg1
  have HBl1 : Hid _ := hbg1
  have HWg1 : Hid (wg1 = _) := hwg1
  clear hbf1 hbg1 hwg1 hoc1
  have hocg1 := oeCells HXg1.out
  rw [HWg1.out] at hocg1
  have HOF2 : Hid _ := bnum_no HEg1.out.b y.n H_hin.out
  go_wp2_with fail
  rw [← HWg1.out] at hocg1 ⊢
  clear hocg1
  refine Calls.mono HOF2.out ?_
  rintro e9 wf2 ⟨rfl, hbf2⟩
  obtain ⟨wg2, hwg2⟩ : ∃ u, u = wf2.alloc (.cells #[.int .u64 0, .int .i64 0, .int .u64 0, .int .u64 0] tBs) := ⟨_, rfl⟩
  have hbg2 : Below wg1.heap.size wg1 wg2 := by rw [hwg2]; exact alw hbf2 _
  have HEg2 : Hid _ := HEg1.out.below hbg2
  have HXg2 : Hid (wg2.heap[wr.heap.size]? = _) := (hbg2.block _ (Array.getElem?_eq_some_iff.1 HXg1.out).1).trans HXg1.out
  have HBg2 : Hid (Below w1.heap.size w1 wg2) := below_next HBg1.out hbg2
  have HBl2 : Hid _ := hbg2
  have HWg2 : Hid (wg2 = _) := hwg2
  clear hbf2 hbg2 hwg2
  have hocg2 := oeCells HXg2.out
  rw [HWg2.out] at hocg2
  have zn0 : (0 : Int) < (y.n : Int) := by have := H_hnn.out; omega
  have zb0 : (0 : Int) < (y.bn : Int) := by have := H_hbn.out; omega
  have zb1 : (y.bn : Int) ≤ 1024 := by have := H_hbn.out; omega
  go_upto_region 17 with (fail)
  iterate 27 (first | go_skip | go_guarded | go_step)
  rw [show decide ((y.n : Int) < 281474976710656) = true from decide_eq_true (by have := H_hnn.out; omega)]
  obtain ⟨a9, cp9, hv9, -⟩ := OwnG.val HEg2.out.b.row
  obtain ⟨nL, hnL⟩ : ∃ nL, nL = s.L.length := ⟨_, rfl⟩
  rw [← hnL] at hv9
  have HNl : Hid (64 ≤ nL) := by have := H_hfu.out; unfold Hid; omega
  clear hnL
  go_wp2_with fail
  rw [← HWg2.out] at hocg2 ⊢
  clear hocg2
  refine Calls.mono (HGD.out _) ?_
  rintro e9 w9 ⟨rfl, hb9⟩
  have HEg9 : Hid _ := HEg2.out.below hb9
  have HXg9 : Hid (w9.heap[wr.heap.size]? = _) := (hb9.block _ (Array.getElem?_eq_some_iff.1 HXg2.out).1).trans HXg2.out
  have HBg9 : Hid (Below w1.heap.size w1 w9) := below_next HBg2.out hb9
  have hocg9 := oeCells HXg9.out
  have hq9 : w9.cell? ⟨q, 0, none⟩ = some (.slice a9 nL cp9) := by rw [← hv9]; exact HEg9.out.b.cell 0
  clear hv9
  have hnl : ¬ (nL : Int) < 64 := by have := HNl.out; omega
  have yn0 : (0 : Int) < (y.n : Int) := by have := H_hnn.out; omega
  have yb0 : (0 : Int) < (y.bn : Int) := by have := H_hbn.out; omega
  have yb1 : (y.bn : Int) ≤ 1024 := by have := H_hbn.out; omega
  clear hb9
  go_upto_region 58 with (fail)
  clear hocg9 hq9 hnl
  obtain ⟨n9, hn9⟩ : ∃ n9, n9 = (s).L.length := ⟨_, rfl⟩
  have hn64 : n9 ≤ 64 := by rw [hn9]; exact HEg9.out.a.inv.len
  obtain ⟨a9, cp9, hv9, -, -, -, hrd9⟩ := OwnG.val HEg9.out.b.row
  have hv9' : v = .slice a9 n9 cp9 := by rw [hn9]; exact hv9
  have hcs9 : ∀ u, Below w9.heap.size w9 u → u.cell? ⟨q, 0, none⟩ = some (.slice a9 n9 cp9) := fun u hu => by rw [← hv9']; exact (HEg9.out.b.below hu).cell 0
  have hc9a := hcs9 w9 (Below.refl _ _)
  have HN9 : Hid _ := hn9
  have HR9 : Hid (RdG KBs w9 a9 (s).L) := hrd9
  clear hn9 hv9 hv9' hrd9
  go_wp2
  go_loopw [37, 38] (fun u j wv => ∃ i : Nat, i ≤ n9 ∧ j = .int .i64 (i : Int) ∧ OwnG KKy wv w9.heap.size u (((s).L.take i).map Xe.k) ∧ Below w9.heap.size w9 wv) (fun _ j _ => n9 - (intOf j).toNat)
  case atStart => exact ⟨0, Nat.zero_le _, rfl, World.ownsRow_nil _ _ _ _, Below.refl _ _⟩
  case round =>
    rename World => wv
    obtain ⟨i, hin, rfl, hown, hbv⟩ := hrel
    have hiw : IntKind.i64.wrap ((i : Int) + 1) = ((i + 1 : Nat) : Int) := by rw [IntKind.wrap_i64]; omega
    have hc9 := hcs9 wv hbv
    by_cases hlt9 : i < n9
    · have hlti : (i : Int) < (n9 : Int) := by omega
      have hi0 : (0 : Int) ≤ (i : Int) := by omega
      have hi1 : i < (s).L.length := by rw [← HN9.out]; exact hlt9
      obtain ⟨b9, o9, rfl, r1, -⟩ := RdG.below HR9.out hbv i hi1
      obtain ⟨x, hx⟩ : ∃ x : Xe, x = (s).L[i] := ⟨_, rfl⟩
      have g1 := r1 1 (.int .i64 x.k.1) (by rw [hx]; rfl)
      have g2 : wv.cell? ⟨b9, o9 + i * 4 + 1 + 1, none⟩ = some (.int .u64 (x.k.2 : Int)) := r1 2 (.int .u64 (x.k.2 : Int)) (by rw [hx]; rfl)
      have HT : Hid (((s).L.take i).map Xe.k ++ [x.k] = ((s).L.take (i + 1)).map Xe.k) := by unfold Hid; rw [List.take_succ_eq_append_getElem hi1, ← hx]; simp
      have HSZ : Hid (w9.heap.size ≤ wv.heap.size) := hbv.size
      have HO : Hid (OwnG KKy (wv.alloc (.cells #[.int .i64 x.k.1, .int .u64 (x.k.2 : Int)] tFk)) w9.heap.size u37 (((s).L.take i).map Xe.k)) := hown.below (alw (Below.refl _ _) _)
      have HL9 : Hid (∀ b, u37.ownBlock = some b → w9.heap.size ≤ b) := fun b hb => (hown.lt' hb).1
      obtain ⟨m9, hm9⟩ : ∃ m9, m9 = (((s).L.take i).map Xe.k).length := ⟨_, rfl⟩
      have hm64 : m9 ≤ 64 := by rw [hm9, List.length_map, List.length_take]; omega
      have HM9 : Hid _ := hm9
      have HBV : Hid _ := hbv
      clear r1 hx hi1 hown hbv hm9 hcs9
      go_wp2_with (at_builtin; refine wp_appG1 (K := KKy) rfl _ _ rfl w9.heap.size u37 (((s).L.take i).map Xe.k) x.k m9 HM9.out ⟨wv.heap.size, 0, none⟩ 1 rfl HO.out rfl (rdF_new wv x.k _ rfl) (by show (m9 + 1) * 16 ≤ _; omega) (by simp only [maxLen]; omega) (by have := HSZ.out; simp; omega) ?_; intro g7 c7 w7 hown7 hg7 hlie7; rw [HT.out] at hown7; have HO7 : Hid _ := hown7; have HG7 : Hid _ := hg7; clear hown7 hg7 hlie7)
      go_roundw
      case rel => exact ⟨i + 1, hlt9, by go_num, HO7.out, (alw HBV.out _).grown HG7.out (by have := HSZ.out; simp; omega) (fun j hj => HL9.out j hj)⟩
      case measure => simp [intOf]; omega
    · have hlti : ¬ (i : Int) < (n9 : Int) := by omega
      have htk : (s).L.take i = (s).L := List.take_of_length_le (by rw [← HN9.out]; omega)
      rw [htk] at hown
      have HEv : Hid _ := HEg9.out.below hbv
      have HOV : Hid _ := hown
      obtain ⟨n8, hn8⟩ : ∃ n8, n8 = ((s).L.map Xe.k).length := ⟨_, rfl⟩
      have hn864 : n8 ≤ 64 := by rw [hn8, List.length_map, ← HN9.out]; exact hn64
      obtain ⟨ab, cb, hvb, -, -, -, hrb⟩ := hown.val
      rw [← hn8] at hvb
      subst hvb
      have HN8 : Hid _ := hn8
      have HRB : Hid (RdG KKy wv ab ((s).L.map Xe.k)) := hrb
      have HBV : Hid _ := hbv
      clear htk hown hbv hcs9 hn8 hrb
      go_wp2_with (first
        | (go_at_call 18; refine Calls.mono (xbusy_t HEv.out.a) ?_; rintro e9 w5 ⟨va, rfl, howna, hb5⟩; obtain ⟨aa, ca, hva, -, -, -, hra⟩ := howna.val; rw [← HN8.out] at hva; subst hva; have HRA : Hid (RdG KKy w5 aa ((s).L.map Xe.k)) := hra; have HB5 : Hid _ := hb5; clear howna hb5 hra)
        | (go_at_call 15; refine Calls.mono (sameKeys_t aa ab n8 ca cb ((s).L.map Xe.k) HN8.out (by omega) HRA.out (RdG.below HRB.out HB5.out)) ?_; rintro e9 w7 ⟨rfl, hb7⟩; have HB7 : Hid _ := hb7; clear hb7))
      refine ⟨?_, ?_⟩
      · unfold WIx
        iterate 365 (apply Exists.intro)
        have h9 := HEv.out.below (below_next HB5.out HB7.out)
        exact ⟨⟨k + 1, V, v, s, by omega, by go_num, Nat.le_trans HSB.out (Nat.le_succ _), HSC.out, h9.less (fun b hb => .inl hb) (Nat.lt_of_lt_of_le (Nat.lt_of_le_of_lt (Nat.zero_le _) hlt0) (Nat.le_refl _)), HBg9.out.trans ((below_next HBV.out (below_next HB5.out HB7.out)).mono HBg9.out.size)⟩, rfl⟩
      · simp [Wmux, intOf]; omega
end Go.Proofs.YtiedgcanndgmoaaGreatDoor
namespace Go.Proofs.YtiedgcanndgmoaaGreatDoor
set_option linter.unusedVariables false
set_option linter.unusedSimpArgs false
open Go.RowKit Go.Maps
set_option maxRecDepth 100000 in
set_option maxHeartbeats 12800000 in
theorem ocase1ok (w1 : World) (ao : Option Addr) (cap : Nat) (xs : List Oe) (P0 p ms mn pw mw q M A EP : Nat) (hM : 16 ≤ M ∧ M ≤ 1024) (hAk : A ≤ 4096) (hEP : 1 ≤ EP ∧ EP ≤ 281474976710655) (hl : xs.length ≤ 4398046511103) (HR : Hid (RdOe w1 ao xs)) (HC : Hid (w1.heap[P0]? = some (.cells #[.int .i64 (M : Int), .int .u64 (A : Int), .int .u64 1, .int .i64 0, .int .i64 1, .int .i64 1] 25 (0, 0))))
    (u0 u1 u3 u10 u13 u16 u17 u18 u19 u20 u21 u22 u23 u24 u25 u26 u27 u28 u29 u30 u31 u32 u33 u34 u35 u36 u37 u38 u39 u40 u41 u42 u43 u44 u45 u46 u47 u48 u49 u50 u51 u52 u53 u54 u55 u56 u57 u58 u59 u60 u61 u62 u63 u64 u65 u66 u67 u68 u69 u70 u71 u72 u73 u74 u75 u76 u77 u78 u79 u80 u81 u82 u83 u84 u85 u86 u87 u88 u89 u90 u91 u92 u93 u94 u95 u96 u97 u98 u99 u100 u101 u102 u103 u104 u105 u106 u107 u108 u109 u110 u111 u112 u113 u114 u115 u116 u117 u118 u119 u120 u121 u122 u123 u124 u125 u126 u127 u128 u129 u130 u131 u132 u133 u134 u135 u136 u137 u138 u139 u140 u141 u142 u143 u144 u145 u146 u147 u148 u149 u150 u151 u152 u153 u154 u155 u156 u157 u158 u159 u160 u161 u162 u163 u164 u165 u166 u167 u168 u169 u170 u171 u172 u173 u174 u175 u176 u177 u178 u179 u180 u181 u182 u183 u184 u185 u186 u187 u188 u189 u190 u191 u192 u193 u194 u195 u196 u197 u198 u199 u200 u201 u202 u203 u204 u205 u206 u207 u208 u209 u210 u211 u212 u213 u214 u215 u216 u217 u218 u219 u220 u221 u222 u223 u224 u225 u226 u227 u228 u229 u230 u231 u232 u233 u234 u235 u236 u237 u238 u239 u240 u241 u242 u243 u244 u245 u246 u247 u248 u249 u250 u251 u252 u253 u254 u255 u256 u257 u258 u259 u260 u261 u262 u263 u264 u265 u266 u267 u268 u269 u270 u271 u272 u273 u274 u275 u276 u277 u278 u279 u280 u281 u282 u283 u284 u285 u286 u287 u288 u289 u290 u291 u292 u293 u294 u295 u296 u297 u298 u299 u300 u301 u302 u303 u304 u305 u306 u307 u308 u309 u310 u311 u312 u313 u314 u315 u316 u317 u318 u319 u320 u321 u322 u323 u324 u325 u326 u327 u328 u329 u330 u331 u332 u333 u334 u335 u336 u337 u338 u339 u340 u341 u342 u343 u344 u345 u346 u347 u348 u349 u350 u351 u352 u353 u354 u355 u356 u357 u358 u359 u360 u361 u362 u363 u364 u365 u366 u367 u368 u369 u370 u371 u372 u373 u374 : Value) (wr : World) (k : Nat) (V : Nat → Nat → Value) (v : Value) (s : Xs) (hk : k ≤ xs.length) (HSB : Hid (s.beg ≤ k)) (HSC : Hid (s.mtu = M ∧ s.ack = A ∧ s.ep = EP)) (HE : Hid (Exb wr (fun b => b < w1.heap.size) p ms mn pw mw V q v s s)) (HB : Hid (Below w1.heap.size w1 wr)) (hlt0 : 0 < w1.heap.size) (hlt : k < xs.length) (hkd : xs[k].kd = 1) (hnn : 1 ≤ xs[k].n ∧ xs[k].n ≤ 281474976710655) (hky : goodK xs[k].k) (hbn : 1 ≤ xs[k].bn ∧ xs[k].bn ≤ 1024) (hik : xs[k].k ∉ s.L.map Xe.k) (hin : xs[k].n ∉ s.L.map Xe.n) (hfu : s.L.length < 64) (Q0 : Exit → Act → World → Prop) :
    Code.wp Tryz.prog (TBx Tryz.f3.body) (Exit.then (fun a' w'' => WIx w1 ao cap xs P0 p ms mn pw mw q M A EP a' w'' ∧ Wmux xs.length a' w'' < Wmux xs.length ⟨#[u0, u1, .int .u64 (EP : Int), u3, .slice ao xs.length cap, undef, undef, undef, undef, undef, u10, .pointer (some ⟨P0, 0, none⟩), .pointer (some ⟨p, 0, none⟩), u13, .pointer (some ⟨q, 0, none⟩), .int .i64 k, u16, u17, u18, u19, u20, u21, u22, u23, u24, u25, u26, u27, u28, u29, u30, u31, u32, u33, u34, u35, u36, u37, u38, u39, u40, u41, u42, u43, u44, u45, u46, u47, u48, u49, u50, u51, u52, u53, u54, u55, u56, u57, u58, u59, u60, u61, u62, u63, u64, u65, u66, u67, u68, u69, u70, u71, u72, u73, u74, u75, u76, u77, u78, u79, u80, u81, u82, u83, u84, u85, u86, u87, u88, u89, u90, u91, u92, u93, u94, u95, u96, u97, u98, u99, u100, u101, u102, u103, u104, u105, u106, u107, u108, u109, u110, u111, u112, u113, u114, u115, u116, u117, u118, u119, u120, u121, u122, u123, u124, u125, u126, u127, u128, u129, u130, u131, u132, u133, u134, u135, u136, u137, u138, u139, u140, u141, u142, u143, u144, u145, u146, u147, u148, u149, u150, u151, u152, u153, u154, u155, u156, u157, u158, u159, u160, u161, u162, u163, u164, u165, u166, u167, u168, u169, u170, u171, u172, u173, u174, u175, u176, u177, u178, u179, u180, u181, u182, u183, u184, u185, u186, u187, u188, u189, u190, u191, u192, u193, u194, u195, u196, u197, u198, u199, u200, u201, u202, u203, u204, u205, u206, u207, u208, u209, u210, u211, u212, u213, u214, u215, u216, u217, u218, u219, u220, u221, u222, u223, u224, u225, u226, u227, u228, u229, u230, u231, u232, u233, u234, u235, u236, u237, u238, u239, u240, u241, u242, u243, u244, u245, u246, u247, u248, u249, u250, u251, u252, u253, u254, u255, u256, u257, u258, u259, u260, u261, u262, u263, u264, u265, u266, u267, u268, u269, u270, u271, u272, u273, u274, u275, u276, u277, u278, u279, u280, u281, u282, u283, u284, u285, u286, u287, u288, u289, u290, u291, u292, u293, u294, u295, u296, u297, u298, u299, u300, u301, u302, u303, u304, u305, u306, u307, u308, u309, u310, u311, u312, u313, u314, u315, u316, u317, u318, u319, u320, u321, u322, u323, u324, u325, u326, u327, u328, u329, u330, u331, u332, u333, u334, u335, u336, u337, u338, u339, u340, u341, u342, u343, u344, u345, u346, u347, u348, u349, u350, u351, u352, u353, u354, u355, u356, u357, u358, u359, u360, u361, u362, u363, u364, u365, u366, u367, u368, u369, u370, u371, u372, u373, u374], []⟩ wr) Q0) ⟨#[u0, u1, .int .u64 (EP : Int), u3, .slice ao xs.length cap, undef, undef, undef, undef, undef, u10, .pointer (some ⟨P0, 0, none⟩), .pointer (some ⟨p, 0, none⟩), u13, .pointer (some ⟨q, 0, none⟩), .int .i64 k, u16, u17, u18, u19, u20, u21, u22, u23, u24, u25, u26, u27, u28, u29, u30, u31, u32, u33, u34, u35, u36, u37, u38, u39, u40, u41, u42, u43, u44, u45, u46, u47, u48, u49, u50, u51, u52, u53, u54, u55, u56, u57, u58, u59, u60, u61, u62, u63, u64, u65, u66, u67, u68, u69, u70, u71, u72, u73, u74, u75, u76, u77, u78, u79, u80, u81, u82, u83, u84, u85, u86, u87, u88, u89, u90, u91, u92, u93, u94, u95, u96, u97, u98, u99, u100, u101, u102, u103, u104, u105, u106, u107, u108, u109, u110, u111, u112, u113, u114, u115, u116, u117, u118, u119, u120, u121, u122, u123, u124, u125, u126, u127, u128, u129, u130, u131, u132, u133, u134, u135, u136, u137, u138, u139, u140, u141, u142, u143, u144, u145, u146, u147, u148, u149, u150, u151, u152, u153, u154, u155, u156, u157, u158, u159, u160, u161, u162, u163, u164, u165, u166, u167, u168, u169, u170, u171, u172, u173, u174, u175, u176, u177, u178, u179, u180, u181, u182, u183, u184, u185, u186, u187, u188, u189, u190, u191, u192, u193, u194, u195, u196, u197, u198, u199, u200, u201, u202, u203, u204, u205, u206, u207, u208, u209, u210, u211, u212, u213, u214, u215, u216, u217, u218, u219, u220, u221, u222, u223, u224, u225, u226, u227, u228, u229, u230, u231, u232, u233, u234, u235, u236, u237, u238, u239, u240, u241, u242, u243, u244, u245, u246, u247, u248, u249, u250, u251, u252, u253, u254, u255, u256, u257, u258, u259, u260, u261, u262, u263, u264, u265, u266, u267, u268, u269, u270, u271, u272, u273, u274, u275, u276, u277, u278, u279, u280, u281, u282, u283, u284, u285, u286, u287, u288, u289, u290, u291, u292, u293, u294, u295, u296, u297, u298, u299, u300, u301, u302, u303, u304, u305, u306, u307, u308, u309, u310, u311, u312, u313, u314, u315, u316, u317, u318, u319, u320, u321, u322, u323, u324, u325, u326, u327, u328, u329, u330, u331, u332, u333, u334, u335, u336, u337, u338, u339, u340, u341, u342, u343, u344, u345, u346, u347, u348, u349, u350, u351, u352, u353, u354, u355, u356, u357, u358, u359, u360, u361, u362, u363, u364, u365, u366, u367, u368, u369, u370, u371, u372, u373, u374], []⟩ wr := by
  conv => arg 2; whnf
  obtain ⟨b, o, rfl, hok, hrg⟩ := HR.out k hlt
  obtain ⟨y, hy⟩ : ∃ y, y = xs[k] := ⟨_, rfl⟩
  rw [← hy] at hok hrg hkd hnn hky hbn hik hin
  have HOK : Hid (OeOk w1 y) := hok
  have hk0 : (0 : Int) ≤ (k : Int) := by omega
  have hkI : (k : Int) < (xs.length : Int) := by omega
  have hkw : IntKind.i64.wrap ((k : Int) + 1) = ((k + 1 : Nat) : Int) := by rw [IntKind.wrap_i64]; omega
  have hLD := rangeAt_below hrg HB.out
  obtain ⟨wa, hwa⟩ : ∃ wa, wa = wr.alloc (.cells y.c tOe) := ⟨_, rfl⟩
  have hba : Below wr.heap.size wr wa := by rw [hwa]; exact alw (Below.refl _ _) _
  have hbxa : wa.heap[wr.heap.size]? = some (.cells y.c tOe (0, 0)) := by rw [hwa]; exact heap_alloc_new wr _
  have hoc := oeCells hbxa
  have hHa : Exb wa (fun b => b < w1.heap.size ∨ b = wr.heap.size) p ms mn pw mw V q v s s := by rw [hwa]; exact HE.out.box _
  have HEa : Hid _ := hHa
  have HBa : Hid (Below w1.heap.size w1 wa) := below_next HB.out hba
  have HXa : Hid _ := hbxa
  have HWA : Hid (wa = _) := hwa
  have HSZa : Hid (w1.heap.size ≤ wr.heap.size ∧ wr.heap.size < wa.heap.size) := ⟨HB.out.size, (Array.getElem?_eq_some_iff.1 hbxa).1⟩
  rw [hwa] at hoc
  clear hy hok hrg hwa hba hbxa hHa
  have k1 : (y.kd == 1) = true := by simp [hkd]
  clear hkd
  have hoca := fun (u : World) (hu : u.heap[wr.heap.size]? = some (.cells y.c tOe (0, 0))) => oeCells hu
  have HXd : Hid (wa.drew.heap[wr.heap.size]? = some (.cells y.c tOe (0, 0))) := HXa.out
  obtain ⟨C, hC⟩ : ∃ C, C = max s.clk (min y.now mxX) := ⟨_, rfl⟩
  have HC9 : Hid (C = _) := hC
  clear hC
  have H_hnn : Hid _ := hnn
  have H_hky : Hid _ := hky
  have H_hbn : Hid _ := hbn
  have H_hik : Hid _ := hik
  have H_hin : Hid _ := hin
  have H_hfu : Hid _ := hfu
  have HGD : Hid (∀ u, Calls Tryz.prog 11 #[fv y.k] u fun e w' => e = .returned (.bool true) ∧ Below u.heap.size u w') := fun u => by
    have h9 := rgood_t y.k u
    rw [show decide (0 ≤ y.k.1 ∧ y.k.1 < 8 ∧ y.k.2 ≤ mxX) = true from decide_eq_true hky] at h9
    exact h9
  clear hnn hky hbn hik hin hfu
  go_upto_region 14 with (first
    | (refine wpList_load_g (by rfl) tOe _ rfl b (o + k * 15) (by rfl) y.c.toList _ hLD Tryz.underlying43 rfl infoOe ?_))
  rw [← HWA.out] at hoc ⊢
  clear hLD
  refine wp_region_noPanic ?_
  refine wp_region_held_drew (S := (fun u => u.heap[wr.heap.size]? = some (.cells y.c tOe (0, 0)))) (by kernel_rfl) (by first | exact HXd.out | exact HX3.out | exact HX4.out | assumption) (fun hHeld => ?_)
  refine tz (i := 0) 78 rfl rfl hHeld ?_
  simp only [pS]
  refine tz (i := 1) 79 rfl rfl hHeld ?_
  simp only [pS]
  refine tz (i := 2) 80 rfl rfl hHeld ?_
  simp only [pS]
  refine tz (i := 3) 81 rfl rfl hHeld ?_
  simp only [pS]
  refine tz (i := 4) 82 rfl rfl hHeld ?_
  simp only [pS]
  refine tz (i := 5) 83 rfl rfl hHeld ?_
  simp only [pS]
  refine tz (i := 6) 84 rfl rfl hHeld ?_
  simp only [pS]
  refine tz (i := 8) 86 rfl rfl hHeld ?_
  simp only [pS]
  refine tz (i := 9) 87 rfl rfl hHeld ?_
  simp only [pS]
  refine run_at (i := 7) rfl (by kernel_rfl) (by rfl) (fun K hK => ?_)
  simp only [List.getElem_toArray, List.getElem_cons_zero, List.getElem_cons_succ]
  first | (go_at_call 8; refine Calls.mono (xbegin_t (HEa.out.a.below HB3.out) y.n y.k a3 y.bn c3 y.now y.xs HOK.out.bn HR3.out HLC.out H_hnn.out H_hky.out H_hbn.out ⟨H_hin.out, H_hik.out⟩ H_hfu.out (by have := HSB.out; omega)) ?_; rintro e9 w4 ⟨va, V4, E, rfl, hbo⟩; have hp4 := (HEa.out.below HB3.out).prog hbo.st hbo.stp; have HX4 : Hid (w4.heap[wr.heap.size]? = some (.cells y.c tOe (0, 0))) := (hp4.2.block wr.heap.size (Nat.lt_of_lt_of_le HSZa.out.2 HB3.out.size) (fun h9 => h9 (.inr rfl))).trans HX3.out; obtain ⟨au, cu, hvu, -, -, -, hru⟩ := hbo.row.val; obtain ⟨N, hN⟩ : ∃ N, N = E.length := ⟨_, rfl⟩; rw [uns_len, ← hN] at hvu; subst hvu; rw [HSC.out.2.2, ← hN] at hru; have htx := hbo.txt; rw [HSC.out.1] at htx; have HTX : Hid _ := htx; have HUN : Hid (RdG KBu w4 au (uns EP y.n N E)) := hru; have HN : Hid (N = E.length) := hN; have HN64 : Hid (N ≤ 64) := (by unfold Hid; rw [hN, htx.len, segN_len]; exact cutN_64 hM.1 (by have := HOK.out.bn; have := H_hbn.out.2; omega)); have h41 := hp4.1; rw [← HC9.out] at h41; have HE4 : Hid _ := h41; have HBw4 : Hid (Below w1.heap.size w1 w4) := chg_below (below_next HBa.out HB3.out) (hp4.2.mono (fun b hb hh => hb (.inl hh))); clear hbo hp4 hru hN htx h41) | (refine wpo_appN _ _ rfl wa.heap.size (.slice none 0 0) [] y.xs y.ba y.bc rfl (World.ownsRow_nil _ _ _ _) (by rw [← HOK.out.bn]; rfl) (OeOk.below HOK.out HBa.out.drew).br HOK.out.bz (by have h7 := HOK.out.bl; have h8 := HOK.out.bb; have h9 := HOK.out.bn; simp only [List.length_nil]; omega) (by exact Nat.le_refl _) ?_; intro v3 w3 hown3 hg3; rw [List.nil_append] at hown3; obtain ⟨a3, c3, hv3, hlc3, -, -, hr3, -⟩ := hown3.val; rw [← HOK.out.bn] at hv3 hlc3; subst hv3; have HB3 : Hid (Below wa.heap.size wa w3) := (Below.refl _ _).drew.grown hg3 (Nat.le_refl _) (fun j hj => by cases hj); have HX3 : Hid (w3.heap[wr.heap.size]? = some (.cells y.c tOe (0, 0))) := (HB3.out.block _ HSZa.out.2).trans HXa.out; have HR3 : Hid (Rd w3 a3 y.xs) := hr3; have HLC : Hid (y.bn ≤ c3) := hlc3; clear hown3 hg3 hr3 hlc3)
  refine hK.out _ _ (by first | exact HXd.out | exact HX3.out | exact HX4.out | assumption) ?_
  clear hK K
  intro hHeld2
  clear hHeld
  have hHeld := hHeld2
  clear hHeld2
  try simp only [pS]
  refine run_at (i := 10) rfl (by kernel_rfl) (by rfl) (fun K hK => ?_)
  simp only [List.getElem_toArray, List.getElem_cons_zero, List.getElem_cons_succ]
  go_simp
  first | (go_at_call 8; refine Calls.mono (xbegin_t (HEa.out.a.below HB3.out) y.n y.k a3 y.bn c3 y.now y.xs HOK.out.bn HR3.out HLC.out H_hnn.out H_hky.out H_hbn.out ⟨H_hin.out, H_hik.out⟩ H_hfu.out (by have := HSB.out; omega)) ?_; rintro e9 w4 ⟨va, V4, E, rfl, hbo⟩; have hp4 := (HEa.out.below HB3.out).prog hbo.st hbo.stp; have HX4 : Hid (w4.heap[wr.heap.size]? = some (.cells y.c tOe (0, 0))) := (hp4.2.block wr.heap.size (Nat.lt_of_lt_of_le HSZa.out.2 HB3.out.size) (fun h9 => h9 (.inr rfl))).trans HX3.out; obtain ⟨au, cu, hvu, -, -, -, hru⟩ := hbo.row.val; obtain ⟨N, hN⟩ : ∃ N, N = E.length := ⟨_, rfl⟩; rw [uns_len, ← hN] at hvu; subst hvu; rw [HSC.out.2.2, ← hN] at hru; have htx := hbo.txt; rw [HSC.out.1] at htx; have HTX : Hid _ := htx; have HUN : Hid (RdG KBu w4 au (uns EP y.n N E)) := hru; have HN : Hid (N = E.length) := hN; have HN64 : Hid (N ≤ 64) := (by unfold Hid; rw [hN, htx.len, segN_len]; exact cutN_64 hM.1 (by have := HOK.out.bn; have := H_hbn.out.2; omega)); have h41 := hp4.1; rw [← HC9.out] at h41; have HE4 : Hid _ := h41; have HBw4 : Hid (Below w1.heap.size w1 w4) := chg_below (below_next HBa.out HB3.out) (hp4.2.mono (fun b hb hh => hb (.inl hh))); clear hbo hp4 hru hN htx h41) | (refine wpo_appN _ _ rfl wa.heap.size (.slice none 0 0) [] y.xs y.ba y.bc rfl (World.ownsRow_nil _ _ _ _) (by rw [← HOK.out.bn]; rfl) (OeOk.below HOK.out HBa.out.drew).br HOK.out.bz (by have h7 := HOK.out.bl; have h8 := HOK.out.bb; have h9 := HOK.out.bn; simp only [List.length_nil]; omega) (by exact Nat.le_refl _) ?_; intro v3 w3 hown3 hg3; rw [List.nil_append] at hown3; obtain ⟨a3, c3, hv3, hlc3, -, -, hr3, -⟩ := hown3.val; rw [← HOK.out.bn] at hv3 hlc3; subst hv3; have HB3 : Hid (Below wa.heap.size wa w3) := (Below.refl _ _).drew.grown hg3 (Nat.le_refl _) (fun j hj => by cases hj); have HX3 : Hid (w3.heap[wr.heap.size]? = some (.cells y.c tOe (0, 0))) := (HB3.out.block _ HSZa.out.2).trans HXa.out; have HR3 : Hid (Rd w3 a3 y.xs) := hr3; have HLC : Hid (y.bn ≤ c3) := hlc3; clear hown3 hg3 hr3 hlc3)
  go_wp2_with fail
  refine hK.out _ _ (by first | exact HXd.out | exact HX3.out | exact HX4.out | assumption) ?_
  clear hK K
  intro hHeld2
  clear hHeld
  have hHeld := hHeld2
  clear hHeld2
  try simp only [pS]
  refine tz (i := 11) 77 rfl rfl hHeld ?_
  simp only [pS]
  refine tz (i := 12) 89 rfl rfl hHeld ?_
  simp only [pS]
  refine tz (i := 13) 90 rfl rfl hHeld ?_
  simp only [pS]
  refine tz (i := 14) 17 rfl rfl hHeld ?_
  simp only [pS]
  refine tz (i := 15) 18 rfl rfl hHeld ?_
  simp only [pS]
  refine wpAnyH_done (by kernel_rfl) ?_ _
  refine NoPanic.normal ?_
  clear hHeld hoca
  obtain ⟨s4, hs4⟩ : ∃ s4 : Xs, s4 = { s with clk := C, beg := s.beg + 1, L := s.L ++ [begX { s with clk := C } y.n y.k] } := ⟨_, rfl⟩
  rw [← hs4] at HE4
  have HS4 : Hid (s4 = _) := hs4
  clear hs4
  have hoc1 := oeCells HX4.out
  have HOF1 : Hid _ := bof_no HE4.out.b y.k H_hik.out
  go_wp2_with fail
  refine Calls.mono HOF1.out ?_
  rintro e9 wf1 ⟨rfl, hbf1⟩
  obtain ⟨wg1, hwg1⟩ : ∃ u, u = wf1.alloc (.cells #[.int .u64 0, .int .i64 0, .int .u64 0, .int .u64 0] tBs) := ⟨_, rfl⟩
  have hbg1 : Below w4.heap.size w4 wg1 := by rw [hwg1]; exact alw hbf1 _
  have HEg1 : Hid _ := HE4.out.below hbg1
  have HXg1 : Hid (wg1.heap[wr.heap.size]? = _) := (hbg1.block _ (Array.getElem?_eq_some_iff.1 HX4.out).1).trans HX4.out
  have HBg1 : Hid (Below w1.heap.size w1 wg1) := below_next HBw4.out hbg1
  have HBl1 : Hid _ := hbg1
  have HWg1 : Hid (wg1 = _) := hwg1
  clear hbf1 hbg1 hwg1 hoc1
  have hocg1 := oeCells HXg1.out
  rw [HWg1.out] at hocg1
  have HOF2 : Hid _ := bnum_no HEg1.out.b y.n H_hin.out
  go_wp2_with fail
  rw [← HWg1.out] at hocg1 ⊢
  clear hocg1
  refine Calls.mono HOF2.out ?_
  rintro e9 wf2 ⟨rfl, hbf2⟩
  obtain ⟨wg2, hwg2⟩ : ∃ u, u = wf2.alloc (.cells #[.int .u64 0, .int .i64 0, .int .u64 0, .int .u64 0] tBs) := ⟨_, rfl⟩
  have hbg2 : Below wg1.heap.size wg1 wg2 := by rw [hwg2]; exact alw hbf2 _
  have HEg2 : Hid _ := HEg1.out.below hbg2
  have HXg2 : Hid (wg2.heap[wr.heap.size]? = _) := (hbg2.block _ (Array.getElem?_eq_some_iff.1 HXg1.out).1).trans HXg1.out
  have HBg2 : Hid (Below w1.heap.size w1 wg2) := below_next HBg1.out hbg2
  have HBl2 : Hid _ := hbg2
  have HWg2 : Hid (wg2 = _) := hwg2
  clear hbf2 hbg2 hwg2
  have hocg2 := oeCells HXg2.out
  rw [HWg2.out] at hocg2
  have zn0 : (0 : Int) < (y.n : Int) := by have := H_hnn.out; omega
  have zb0 : (0 : Int) < (y.bn : Int) := by have := H_hbn.out; omega
  have zb1 : (y.bn : Int) ≤ 1024 := by have := H_hbn.out; omega
  go_upto_region 17 with (fail)
  iterate 27 (first | go_skip | go_guarded | go_step)
  rw [show decide ((y.n : Int) < 281474976710656) = true from decide_eq_true (by have := H_hnn.out; omega)]
  go_wp2_with fail
  rw [← HWg2.out] at hocg2 ⊢
  clear hocg2
  refine Calls.mono (HGD.out _) ?_
  rintro e9 w9 ⟨rfl, hb9⟩
  have HEg9 : Hid _ := HEg2.out.below hb9
  have HXg9 : Hid (w9.heap[wr.heap.size]? = _) := (hb9.block _ (Array.getElem?_eq_some_iff.1 HXg2.out).1).trans HXg2.out
  have HBg9 : Hid (Below w1.heap.size w1 w9) := below_next HBg2.out hb9
  have hb49 : Below w4.heap.size w4 w9 := below_next (below_next HBl1.out HBl2.out) hb9
  have hocg9 := oeCells HXg9.out
  obtain ⟨a9, cp9, hv9, -⟩ := OwnG.val HEg9.out.b.row
  obtain ⟨nL, hnL⟩ : ∃ nL, nL = s.L.length := ⟨_, rfl⟩
  rw [← hnL] at hv9
  have hnl : (nL : Int) < 64 := by have := H_hfu.out; omega
  have hnl63 : nL ≤ 63 := by have := H_hfu.out; omega
  have HNL : Hid (nL = s.L.length) := hnL
  have HV9 : Hid (v = .slice a9 nL cp9) := hv9
  have hq9 : w9.cell? ⟨q, 0, none⟩ = some (.slice a9 nL cp9) := by rw [← hv9]; exact HEg9.out.b.cell 0
  have hcfb : ∀ u, Below w1.heap.size w1 u → u.cell? ⟨P0, 0, none⟩ = some (.int .i64 (M : Int)) ∧ u.cell? ⟨P0, 1, none⟩ = some (.int .u64 (A : Int)) := fun u hu => by
    have h9 := (hu.block _ (Array.getElem?_eq_some_iff.1 HC.out).1).trans HC.out
    exact ⟨by rw [cell_of_row _ _ _ _ _ _ h9]; rfl, by rw [cell_of_row _ _ _ _ _ _ h9]; rfl⟩
  have hcf9 := hcfb w9 HBg9.out
  have HJN : Hid _ := joined_t (w := w9) EP y.n M N w3.heap.size au cu E _ y.xs y.ba y.bn y.bc HN.out HN64.out (RdG.below HUN.out hb49) (HTX.out.below hb49) (segN_whole hM.1) (segN_ok hM.1 (by have h8 := HOK.out.bn; have h7 := H_hbn.out.1; omega)) hM.2 HOK.out.bn (OeOk.below HOK.out HBg9.out).br H_hbn.out.2
  clear hb9 hb49 hnL hv9
  go_wp2_with fail
  refine Calls.mono HJN.out ?_
  rintro e9 w10 ⟨rfl, hb10⟩
  have hE10 := HEg9.out.below hb10
  have HX10 : Hid (w10.heap[wr.heap.size]? = some (.cells y.c tOe (0, 0))) := (hb10.block _ (Array.getElem?_eq_some_iff.1 HXg9.out).1).trans HXg9.out
  have HB10 : Hid (Below w1.heap.size w1 w10) := below_next HBg9.out hb10
  have HON : Hid _ := bon_t hE10.b y.now
  rw [← HC9.out] at HON
  have HE10 : Hid _ := hE10
  have hoc10 := oeCells HX10.out
  clear hb10 hE10 hocg9 hq9 hcf9
  go_wp2_with fail
  refine Calls.mono HON.out ?_
  rintro e9 w11 ⟨rfl, hR5, hst5⟩
  have hp11 := HE10.out.doc hR5 hst5
  have HE11 : Hid (Exb w11 (fun b => b < w1.heap.size ∨ b = wr.heap.size) p ms mn pw mw V4 q v s4 { s with clk := C }) := hp11.1
  have HX11 : Hid (w11.heap[wr.heap.size]? = some (.cells y.c tOe (0, 0))) := (hp11.2.block wr.heap.size (Array.getElem?_eq_some_iff.1 HX10.out).1 (fun h9 => h9 (.inr rfl))).trans HX10.out
  have HB11 : Hid (Below w1.heap.size w1 w11) := chg_below HB10.out (hp11.2.mono (fun b hb hh => hb (.inl hh)))
  have hcl : C ≤ 281474976710655 := hR5.inv.c
  obtain ⟨SA, hSA⟩ : ∃ SA : Nat, SA = C + A := ⟨_, rfl⟩
  have hsw : IntKind.u64.wrap ((C : Int) + (A : Int)) = (SA : Int) := by rw [IntKind.wrap_u64]; omega
  have HK5 : Hid (∀ u, Below w11.heap.size w11 u → (u.cell? ⟨wr.heap.size, 1, none⟩ = some (.int .u64 (y.n : Int)) ∧ u.cell? ⟨wr.heap.size, 2, none⟩ = some (.int .i64 y.k.1) ∧ u.cell? ⟨wr.heap.size, 3, none⟩ = some (.int .u64 (y.k.2 : Int))) ∧ u.cell? ⟨q, 1, none⟩ = some (.int .u64 (C : Int)) ∧ u.cell? ⟨P0, 1, none⟩ = some (.int .u64 (A : Int))) := fun u hu => by
    have h9 := oeCells ((hu.block _ (Array.getElem?_eq_some_iff.1 HX11.out).1).trans HX11.out)
    exact ⟨⟨h9.2.1, h9.2.2.1, h9.2.2.2.1⟩, (hR5.below hu).cell 1, (hcfb u (below_next HB11.out hu)).2⟩
  have HC1 : Hid (∀ u, Below w11.heap.size w11 u → u.cell? ⟨q, 0, none⟩ = some (.slice a9 nL cp9)) := fun u hu => by
    have h9 := (hR5.below hu).cell 0
    rw [HV9.out] at h9
    exact h9
  have HOW : Hid (∀ u, Below w11.heap.size w11 u → OwnG KBs u 0 (.slice a9 nL cp9) s.L) := fun u hu => by
    have h9 := (hR5.below hu).row
    rw [HV9.out] at h9
    exact h9
  have HQ : Hid (∀ u u', Below w11.heap.size w11 u → u.grownBy u' (Value.slice a9 nL cp9).ownBlock → u'.cell? ⟨q, 0, none⟩ = some (.slice a9 nL cp9) ∧ u'.frozen? ⟨q, 0, none⟩ = false) := fun u u' hu hg => by
    have h9 := hR5.below hu
    rw [HV9.out] at h9
    have h8 : u'.heap[q]? = u.heap[q]? := hg.block q h9.ql (fun e => h9.qv q e.symm rfl)
    exact ⟨(World.cell?_of_block h8).trans (h9.cell 0), (World.frozen?_of_block h8).trans (h9.frz 0)⟩
  obtain ⟨z, hz⟩ : ∃ z : Xe, z = begX { s with clk := C } y.n y.k := ⟨_, rfl⟩
  have HY : Hid (xev z = [.int .u64 (y.n : Int), .int .i64 y.k.1, .int .u64 (y.k.2 : Int), .int .u64 (min (SA : Int) 281474976710655)]) := by
    unfold Hid
    rw [hz]
    have h9 : ((min (C + s.ack) mxX : Nat) : Int) = min (SA : Int) 281474976710655 := by rw [HSC.out.2.1, ← hSA]; unfold mxX; omega
    simp only [xev, begX, h9]
  have HYE : Hid _ := hz
  have HR5 : Hid _ := hR5
  clear hR5 hst5 hp11 hcl hSA hz hcfb hoc10
  go_wp2_with fail
  refine wp_region_noPanic ?_
  refine wp_region_late_drew (S := (fun u => Below w11.heap.size w11 u)) (X := [19, 20, 21, 22]) (by kernel_rfl) (by with_reducible first | exact (Below.refl _ _).drew | exact alw (Below.refl _ _).drew _ | exact alw hHeld _ | exact (alw (Below.refl _ _) _).drew | assumption) (fun hHeld => ?_)
  refine take_atA (i := 0) 175 (v := ?_) rfl rfl (by kernel_rfl) (by kernel_rfl) (by kernel_rfl) (by decide) (fun _ _ _ h => h) (by rfl) ?_ hHeld ?_
  rotate_left
  · (intro w; go_simp; try with_reducible rfl)
  simp only [pS]
  refine take_atA (i := 1) 176 (v := ?_) rfl rfl (by kernel_rfl) (by kernel_rfl) (by kernel_rfl) (by decide) (fun _ _ _ h => h) (by rfl) ?_ hHeld ?_
  rotate_left
  · (intro w; go_simp; try with_reducible rfl)
  simp only [pS]
  refine take_atA (i := 2) 177 (v := ?_) rfl rfl (by kernel_rfl) (by kernel_rfl) (by kernel_rfl) (by decide) (fun _ _ _ h => h) (by rfl) ?_ hHeld ?_
  rotate_left
  · (intro w; go_simp; try with_reducible rfl)
  simp only [pS]
  refine take_atA (i := 3) 178 (v := ?_) rfl rfl (by kernel_rfl) (by kernel_rfl) (by kernel_rfl) (by decide) (fun _ _ _ h => h) (by rfl) ?_ hHeld ?_
  rotate_left
  · (intro w; go_simp; try with_reducible rfl)
  simp only [pS]
  refine take_atL (i := 4) 179 (v := .slice a9 nL cp9) rfl rfl (by kernel_rfl) (by kernel_rfl) (by kernel_rfl) (by kernel_rfl) (fun _ _ _ h => h) (by rfl) ?_ hHeld ?_
  · (intro w hSw; have hc9 := HC1.out _ hSw; go_simp; try with_reducible rfl)
  simp only [pS]
  refine take_atA (i := 5) 180 (v := ?_) rfl rfl (by kernel_rfl) (by kernel_rfl) (by kernel_rfl) (by decide) (fun _ _ _ h => h) (by rfl) ?_ hHeld ?_
  rotate_left
  · (intro w; go_simp; try with_reducible rfl)
  simp only [pS]
  refine take_atL (i := 6) 181 (v := .int .u64 (y.n : Int)) rfl rfl (by kernel_rfl) (by kernel_rfl) (by kernel_rfl) (by kernel_rfl) (fun _ _ _ h => h) (by rfl) ?_ hHeld ?_
  · (intro w hSw; have hc9 := HK5.out _ hSw; go_simp; try with_reducible rfl)
  simp only [pS]
  refine take_atA (i := 7) 182 (v := ?_) rfl rfl (by kernel_rfl) (by kernel_rfl) (by kernel_rfl) (by decide) (fun _ _ _ h => h) (by rfl) ?_ hHeld ?_
  rotate_left
  · (intro w; go_simp; try with_reducible rfl)
  simp only [pS]
  refine take_atL (i := 8) 183 (v := .agg #[.int .i64 y.k.1, .int .u64 (y.k.2 : Int)]) rfl rfl (by kernel_rfl) (by kernel_rfl) (by kernel_rfl) (by kernel_rfl) (fun _ _ _ h => h) (by rfl) ?_ hHeld ?_
  · (intro w hSw; have hc9 := HK5.out _ hSw; go_simp; try with_reducible rfl)
  simp only [pS]
  refine take_atA (i := 9) 184 (v := ?_) rfl rfl (by kernel_rfl) (by kernel_rfl) (by kernel_rfl) (by decide) (fun _ _ _ h => h) (by rfl) ?_ hHeld ?_
  rotate_left
  · (intro w; go_simp; try with_reducible rfl)
  simp only [pS]
  refine take_atA (i := 10) 185 (v := ?_) rfl rfl (by kernel_rfl) (by kernel_rfl) (by kernel_rfl) (by decide) (fun _ _ _ h => h) (by rfl) ?_ hHeld ?_
  rotate_left
  · (intro w; go_simp; try with_reducible rfl)
  simp only [pS]
  refine take_atA (i := 11) 186 (v := ?_) rfl rfl (by kernel_rfl) (by kernel_rfl) (by kernel_rfl) (by decide) (fun _ _ _ h => h) (by rfl) ?_ hHeld ?_
  rotate_left
  · (intro w; go_simp; try with_reducible rfl)
  simp only [pS]
  refine take_atL (i := 12) 187 (v := .int .u64 (C : Int)) rfl rfl (by kernel_rfl) (by kernel_rfl) (by kernel_rfl) (by kernel_rfl) (fun _ _ _ h => h) (by rfl) ?_ hHeld ?_
  · (intro w hSw; have hc9 := HK5.out _ hSw; go_simp; try with_reducible rfl)
  simp only [pS]
  refine take_atA (i := 13) 188 (v := ?_) rfl rfl (by kernel_rfl) (by kernel_rfl) (by kernel_rfl) (by decide) (fun _ _ _ h => h) (by rfl) ?_ hHeld ?_
  rotate_left
  · (intro w; go_simp; try with_reducible rfl)
  simp only [pS]
  refine take_atL (i := 14) 189 (v := .int .u64 (A : Int)) rfl rfl (by kernel_rfl) (by kernel_rfl) (by kernel_rfl) (by kernel_rfl) (fun _ _ _ h => h) (by rfl) ?_ hHeld ?_
  · (intro w hSw; have hc9 := HK5.out _ hSw; go_simp; try with_reducible rfl)
  simp only [pS]
  refine take_atA (i := 15) 190 (v := ?_) rfl rfl (by kernel_rfl) (by kernel_rfl) (by kernel_rfl) (by decide) (fun _ _ _ h => h) (by rfl) ?_ hHeld ?_
  rotate_left
  · (intro w; go_simp; try with_reducible rfl)
  simp only [pS]
  refine run_atL (i := 16) rfl (by kernel_rfl) (by rfl) (fun K hK => ?_)
  simp only [List.getElem_toArray, List.getElem_cons_zero, List.getElem_cons_succ]
  go_simp
  go_wp2_with fail
  refine hK.out _ _ (by with_reducible first | exact (Below.refl _ _).drew | exact alw (Below.refl _ _).drew _ | exact alw hHeld _ | exact (alw (Below.refl _ _) _).drew | assumption) ?_
  clear hK K
  intro hHeld2
  clear hHeld
  have hHeld := hHeld2
  clear hHeld2
  try simp only [pS]
  refine take_atA (i := 17) 192 (v := ?_) rfl rfl (by kernel_rfl) (by kernel_rfl) (by kernel_rfl) (by decide) (fun _ _ _ h => h) (by rfl) ?_ hHeld ?_
  rotate_left
  · (intro w; go_simp; try with_reducible rfl)
  simp only [pS]
  refine run_atL (i := 18) rfl (by kernel_rfl) (by rfl) (fun K hK => ?_)
  simp only [List.getElem_toArray, List.getElem_cons_zero, List.getElem_cons_succ]
  go_simp
  go_wp2_with fail
  refine hK.out _ _ (by with_reducible first | exact (Below.refl _ _).drew | exact alw (Below.refl _ _).drew _ | exact alw hHeld _ | exact (alw (Below.refl _ _) _).drew | assumption) ?_
  clear hK K
  intro hHeld2
  clear hHeld
  have hHeld := hHeld2
  clear hHeld2
  try simp only [pS]
  refine run_atLate (i := 19) rfl (by kernel_rfl) (by decide) (by rfl) (fun K hK => ?_)
  simp only [List.getElem_toArray, List.getElem_cons_zero, List.getElem_cons_succ]
  (refine wpo_appG1 (K := KBs) _ _ rfl 0 (.slice a9 nL cp9) s.L z nL HNL.out ⟨w11.heap.size, 0, none⟩ 1 rfl (HOW.out _ (alw (Below.refl _ _).drew _)) rfl (rdG_lit (K := KBs) (heap_alloc_new _ _) (by simp [Kd.flat, HY.out])) (by show (nL + 1) * 32 ≤ _; omega) (by simp only [maxLen]; omega) (Nat.zero_le _) ?_; intro g6 c6 w12 hown6 hg6 hat6; obtain ⟨hcq, hfq⟩ := HQ.out _ _ (alw (Below.refl _ _).drew _) hg6; have HO6 : Hid _ := hown6; have HG6 : Hid _ := hg6; have HT6 : Hid _ := hat6; clear hown6 hg6 hat6)
  refine hK.out _ _ ?_
  clear hK K
  try simp only [pS]
  refine val_atLate (i := 20) 195 (v := ?_) rfl rfl (by kernel_rfl) (by decide) (by rfl) ?_ ?_
  rotate_left
  · (go_simp; try with_reducible rfl)
  simp only [pS]
  refine val_atLate (i := 21) 196 (v := ?_) rfl rfl (by kernel_rfl) (by decide) (by rfl) ?_ ?_
  rotate_left
  · (go_simp; try with_reducible rfl)
  simp only [pS]
  refine run_atLate (i := 22) rfl (by kernel_rfl) (by decide) (by rfl) (fun K hK => ?_)
  simp only [List.getElem_toArray, List.getElem_cons_zero, List.getElem_cons_succ]
  go_simp
  go_wp2_with fail
  refine hK.out _ _ ?_
  clear hK K
  try simp only [pS]
  refine doneL (by kernel_rfl) ?_ _
  refine NoPanic.normal ?_
  have hO6 := HO6.out
  have hcw : Chg (fun b => v.ownBlock = some b) w11 w12 := by
    rw [HV9.out]
    exact (Chg.of_below (alw (Below.refl _ _).drew _)).trans (Chg.of_grown HG6.out (F := fun b => (Value.slice a9 nL cp9).ownBlock = some b) (fun b e => e)) (fun b e => .inl e)
  have hs4L : s4.L = s.L ++ [z] := by rw [HS4.out, HYE.out]
  obtain ⟨hR7, hst7⟩ := HR5.out.setRowT hcw (t := s4) (by rw [HS4.out]) (by rw [HS4.out]) (by rw [HS4.out]) (by rw [HS4.out]) (v' := .slice (some ⟨g6, 0, none⟩) (nL + 1) c6) (by rw [hs4L]; exact hO6) (fun b e => by
    cases e
    rw [HV9.out]
    rcases HT6.out with h9 | h9
    · exact .inl h9
    · exact .inr (Nat.le_trans (alw (Below.refl _ _).drew _).size h9)) HE11.out.a.inv
  obtain ⟨w13, hw13⟩ : ∃ w13, w13 = w12.setCell ⟨q, 0, none⟩ (.slice (some ⟨g6, 0, none⟩) (nL + 1) c6) := ⟨_, rfl⟩
  rw [← hw13] at hR7 hst7
  have hp13 := HE11.out.doc hR7 hst7
  have HE13 : Hid (Exb w13 (fun b => b < w1.heap.size ∨ b = wr.heap.size) p ms mn pw mw V4 q (.slice (some ⟨g6, 0, none⟩) (nL + 1) c6) s4 s4) := hp13.1
  have HB13 : Hid (Below w1.heap.size w1 w13) := chg_below HB11.out (hp13.2.mono (fun b hb hh => hb (.inl hh)))
  have HSB9 : Hid (s4.beg ≤ k + 1) := by unfold Hid; rw [HS4.out]; exact Nat.succ_le_succ HSB.out
  have HSC9 : Hid (s4.mtu = M ∧ s4.ack = A ∧ s4.ep = EP) := by unfold Hid; rw [HS4.out]; exact HSC.out
  rw [← hw13]
  clear hO6 hcw hs4L hR7 hst7 hw13 hp13
  obtain ⟨v13, hv13⟩ : ∃ v13 : Value, v13 = .slice (some ⟨g6, 0, none⟩) (nL + 1) c6 := ⟨_, rfl⟩
  rw [← hv13] at HE13
  clear hv13
  obtain ⟨n9, hn9⟩ : ∃ n9, n9 = (s4).L.length := ⟨_, rfl⟩
  have hn64 : n9 ≤ 64 := by rw [hn9]; exact HE13.out.a.inv.len
  obtain ⟨a9, cp9, hv9, -, -, -, hrd9⟩ := OwnG.val HE13.out.b.row
  have hv9' : v13 = .slice a9 n9 cp9 := by rw [hn9]; exact hv9
  have hcs9 : ∀ u, Below w13.heap.size w13 u → u.cell? ⟨q, 0, none⟩ = some (.slice a9 n9 cp9) := fun u hu => by rw [← hv9']; exact (HE13.out.b.below hu).cell 0
  have hc9a := hcs9 w13 (Below.refl _ _)
  have HN9 : Hid _ := hn9
  have HR9 : Hid (RdG KBs w13 a9 (s4).L) := hrd9
  clear hn9 hv9 hv9' hrd9
  go_wp2
  go_loopw [37, 38] (fun u j wv => ∃ i : Nat, i ≤ n9 ∧ j = .int .i64 (i : Int) ∧ OwnG KKy wv w13.heap.size u (((s4).L.take i).map Xe.k) ∧ Below w13.heap.size w13 wv) (fun _ j _ => n9 - (intOf j).toNat)
  case atStart => exact ⟨0, Nat.zero_le _, rfl, World.ownsRow_nil _ _ _ _, Below.refl _ _⟩
  case round =>
    rename World => wv
    obtain ⟨i, hin, rfl, hown, hbv⟩ := hrel
    have hiw : IntKind.i64.wrap ((i : Int) + 1) = ((i + 1 : Nat) : Int) := by rw [IntKind.wrap_i64]; omega
    have hc9 := hcs9 wv hbv
    by_cases hlt9 : i < n9
    · have hlti : (i : Int) < (n9 : Int) := by omega
      have hi0 : (0 : Int) ≤ (i : Int) := by omega
      have hi1 : i < (s4).L.length := by rw [← HN9.out]; exact hlt9
      obtain ⟨b9, o9, rfl, r1, -⟩ := RdG.below HR9.out hbv i hi1
      obtain ⟨x, hx⟩ : ∃ x : Xe, x = (s4).L[i] := ⟨_, rfl⟩
      have g1 := r1 1 (.int .i64 x.k.1) (by rw [hx]; rfl)
      have g2 : wv.cell? ⟨b9, o9 + i * 4 + 1 + 1, none⟩ = some (.int .u64 (x.k.2 : Int)) := r1 2 (.int .u64 (x.k.2 : Int)) (by rw [hx]; rfl)
      have HT : Hid (((s4).L.take i).map Xe.k ++ [x.k] = ((s4).L.take (i + 1)).map Xe.k) := by unfold Hid; rw [List.take_succ_eq_append_getElem hi1, ← hx]; simp
      have HSZ : Hid (w13.heap.size ≤ wv.heap.size) := hbv.size
      have HO : Hid (OwnG KKy (wv.alloc (.cells #[.int .i64 x.k.1, .int .u64 (x.k.2 : Int)] tFk)) w13.heap.size u37 (((s4).L.take i).map Xe.k)) := hown.below (alw (Below.refl _ _) _)
      have HL9 : Hid (∀ b, u37.ownBlock = some b → w13.heap.size ≤ b) := fun b hb => (hown.lt' hb).1
      obtain ⟨m9, hm9⟩ : ∃ m9, m9 = (((s4).L.take i).map Xe.k).length := ⟨_, rfl⟩
      have hm64 : m9 ≤ 64 := by rw [hm9, List.length_map, List.length_take]; omega
      have HM9 : Hid _ := hm9
      have HBV : Hid _ := hbv
      clear r1 hx hi1 hown hbv hm9 hcs9
      go_wp2_with (at_builtin; refine wp_appG1 (K := KKy) rfl _ _ rfl w13.heap.size u37 (((s4).L.take i).map Xe.k) x.k m9 HM9.out ⟨wv.heap.size, 0, none⟩ 1 rfl HO.out rfl (rdF_new wv x.k _ rfl) (by show (m9 + 1) * 16 ≤ _; omega) (by simp only [maxLen]; omega) (by have := HSZ.out; simp; omega) ?_; intro g7 c7 w7 hown7 hg7 hlie7; rw [HT.out] at hown7; have HO7 : Hid _ := hown7; have HG7 : Hid _ := hg7; clear hown7 hg7 hlie7)
      go_roundw
      case rel => exact ⟨i + 1, hlt9, by go_num, HO7.out, (alw HBV.out _).grown HG7.out (by have := HSZ.out; simp; omega) (fun j hj => HL9.out j hj)⟩
      case measure => simp [intOf]; omega
    · have hlti : ¬ (i : Int) < (n9 : Int) := by omega
      have htk : (s4).L.take i = (s4).L := List.take_of_length_le (by rw [← HN9.out]; omega)
      rw [htk] at hown
      have HEv : Hid _ := HE13.out.below hbv
      have HOV : Hid _ := hown
      obtain ⟨n8, hn8⟩ : ∃ n8, n8 = ((s4).L.map Xe.k).length := ⟨_, rfl⟩
      have hn864 : n8 ≤ 64 := by rw [hn8, List.length_map, ← HN9.out]; exact hn64
      obtain ⟨ab, cb, hvb, -, -, -, hrb⟩ := hown.val
      rw [← hn8] at hvb
      subst hvb
      have HN8 : Hid _ := hn8
      have HRB : Hid (RdG KKy wv ab ((s4).L.map Xe.k)) := hrb
      have HBV : Hid _ := hbv
      clear htk hown hbv hcs9 hn8 hrb
      go_wp2_with (first
        | (go_at_call 18; refine Calls.mono (xbusy_t HEv.out.a) ?_; rintro e9 w5 ⟨va, rfl, howna, hb5⟩; obtain ⟨aa, ca, hva, -, -, -, hra⟩ := howna.val; rw [← HN8.out] at hva; subst hva; have HRA : Hid (RdG KKy w5 aa ((s4).L.map Xe.k)) := hra; have HB5 : Hid _ := hb5; clear howna hb5 hra)
        | (go_at_call 15; refine Calls.mono (sameKeys_t aa ab n8 ca cb ((s4).L.map Xe.k) HN8.out (by omega) HRA.out (RdG.below HRB.out HB5.out)) ?_; rintro e9 w7 ⟨rfl, hb7⟩; have HB7 : Hid _ := hb7; clear hb7))
      refine ⟨?_, ?_⟩
      · unfold WIx
        iterate 365 (apply Exists.intro)
        have h9 := HEv.out.below (below_next HB5.out HB7.out)
        exact ⟨⟨k + 1, V4, v13, s4, by omega, by go_num, HSB9.out, HSC9.out, h9.less (fun b hb => .inl hb) (Nat.lt_of_lt_of_le (Nat.lt_of_le_of_lt (Nat.zero_le _) hlt0) (Nat.le_refl _)), HB13.out.trans ((below_next HBV.out (below_next HB5.out HB7.out)).mono HB13.out.size)⟩, rfl⟩
      · simp [Wmux, intOf]; omega
end Go.Proofs.YtiedgcanndgmoaaGreatDoor
