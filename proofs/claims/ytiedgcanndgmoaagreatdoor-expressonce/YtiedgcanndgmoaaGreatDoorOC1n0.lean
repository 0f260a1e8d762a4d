import Derived.Test.YtiedgcanndgmoaaGreatDoorOC4i
namespace Go.Proofs.YtiedgcanndgmoaaGreatDoor
set_option linter.unusedVariables false
set_option linter.unusedSimpArgs false
open Go.RowKit Go.Maps
set_option maxRecDepth 100000 in
set_option maxHeartbeats 12800000 in
theorem ocase4o (w1 : World) (ao : Option Addr) (cap : Nat) (xs : List Oe) (P0 p ms mn pw mw q M A EP : Nat) (hM : 16 ≤ M ∧ M ≤ 1024) (hAk : A ≤ 4096) (hEP : 1 ≤ EP ∧ EP ≤ 281474976710655) (hl : xs.length ≤ 4398046511103) (HR : Hid (RdOe w1 ao xs)) (HC : Hid (w1.heap[P0]? = some (.cells #[.int .i64 (M : Int), .int .u64 (A : Int), .int .u64 1, .int .i64 0, .int .i64 1, .int .i64 1] 25 (0, 0))))
    (u0 u1 u3 u10 u13 u16 u17 u18 u19 u20 u21 u22 u23 u24 u25 u26 u27 u28 u29 u30 u31 u32 u33 u34 u35 u36 u37 u38 u39 u40 u41 u42 u43 u44 u45 u46 u47 u48 u49 u50 u51 u52 u53 u54 u55 u56 u57 u58 u59 u60 u61 u62 u63 u64 u65 u66 u67 u68 u69 u70 u71 u72 u73 u74 u75 u76 u77 u78 u79 u80 u81 u82 u83 u84 u85 u86 u87 u88 u89 u90 u91 u92 u93 u94 u95 u96 u97 u98 u99 u100 u101 u102 u103 u104 u105 u106 u107 u108 u109 u110 u111 u112 u113 u114 u115 u116 u117 u118 u119 u120 u121 u122 u123 u124 u125 u126 u127 u128 u129 u130 u131 u132 u133 u134 u135 u136 u137 u138 u139 u140 u141 u142 u143 u144 u145 u146 u147 u148 u149 u150 u151 u152 u153 u154 u155 u156 u157 u158 u159 u160 u161 u162 u163 u164 u165 u166 u167 u168 u169 u170 u171 u172 u173 u174 u175 u176 u177 u178 u179 u180 u181 u182 u183 u184 u185 u186 u187 u188 u189 u190 u191 u192 u193 u194 u195 u196 u197 u198 u199 u200 u201 u202 u203 u204 u205 u206 u207 u208 u209 u210 u211 u212 u213 u214 u215 u216 u217 u218 u219 u220 u221 u222 u223 u224 u225 u226 u227 u228 u229 u230 u231 u232 u233 u234 u235 u236 u237 u238 u239 u240 u241 u242 u243 u244 u245 u246 u247 u248 u249 u250 u251 u252 u253 u254 u255 u256 u257 u258 u259 u260 u261 u262 u263 u264 u265 u266 u267 u268 u269 u270 u271 u272 u273 u274 u275 u276 u277 u278 u279 u280 u281 u282 u283 u284 u285 u286 u287 u288 u289 u290 u291 u292 u293 u294 u295 u296 u297 u298 u299 u300 u301 u302 u303 u304 u305 u306 u307 u308 u309 u310 u311 u312 u313 u314 u315 u316 u317 u318 u319 u320 u321 u322 u323 u324 u325 u326 u327 u328 u329 u330 u331 u332 u333 u334 u335 u336 u337 u338 u339 u340 u341 u342 u343 u344 u345 u346 u347 u348 u349 u350 u351 u352 u353 u354 u355 u356 u357 u358 u359 u360 u361 u362 u363 u364 u365 u366 u367 u368 u369 u370 u371 u372 u373 u374 : Value) (wr : World) (k : Nat) (V : Nat → Nat → Value) (v : Value) (s : Xs) (hk : k ≤ xs.length) (HSB : Hid (s.beg ≤ k)) (HSC : Hid (s.mtu = M ∧ s.ack = A ∧ s.ep = EP)) (HE : Hid (Exb wr (fun b => b < w1.heap.size) p ms mn pw mw V q v s s)) (HB : Hid (Below w1.heap.size w1 wr)) (hlt0 : 0 < w1.heap.size) (hlt : k < xs.length) (hkd : xs[k].kd = 4) (hin : xs[k].k ∉ s.L.map Xe.k) (Q0 : Exit → Act → World → Prop) :
    Code.wp Tryz.prog (TBx Tryz.f3.body) (Exit.then (fun a' w'' => WIx w1 ao cap xs P0 p ms mn pw mw q M A EP a' w'' ∧ Wmux xs.length a' w'' < Wmux xs.length ⟨#[u0, u1, .int .u64 (EP : Int), u3, .slice ao xs.length cap, undef, undef, undef, undef, undef, u10, .pointer (some ⟨P0, 0, none⟩), .pointer (some ⟨p, 0, none⟩), u13, .pointer (some ⟨q, 0, none⟩), .int .i64 k, u16, u17, u18, u19, u20, u21, u22, u23, u24, u25, u26, u27, u28, u29, u30, u31, u32, u33, u34, u35, u36, u37, u38, u39, u40, u41, u42, u43, u44, u45, u46, u47, u48, u49, u50, u51, u52, u53, u54, u55, u56, u57, u58, u59, u60, u61, u62, u63, u64, u65, u66, u67, u68, u69, u70, u71, u72, u73, u74, u75, u76, u77, u78, u79, u80, u81, u82, u83, u84, u85, u86, u87, u88, u89, u90, u91, u92, u93, u94, u95, u96, u97, u98, u99, u100, u101, u102, u103, u104, u105, u106, u107, u108, u109, u110, u111, u112, u113, u114, u115, u116, u117, u118, u119, u120, u121, u122, u123, u124, u125, u126, u127, u128, u129, u130, u131, u132, u133, u134, u135, u136, u137, u138, u139, u140, u141, u142, u143, u144, u145, u146, u147, u148, u149, u150, u151, u152, u153, u154, u155, u156, u157, u158, u159, u160, u161, u162, u163, u164, u165, u166, u167, u168, u169, u170, u171, u172, u173, u174, u175, u176, u177, u178, u179, u180, u181, u182, u183, u184, u185, u186, u187, u188, u189, u190, u191, u192, u193, u194, u195, u196, u197, u198, u199, u200, u201, u202, u203, u204, u205, u206, u207, u208, u209, u210, u211, u212, u213, u214, u215, u216, u217, u218, u219, u220, u221, u222, u223, u224, u225, u226, u227, u228, u229, u230, u231, u232, u233, u234, u235, u236, u237, u238, u239, u240, u241, u242, u243, u244, u245, u246, u247, u248, u249, u250, u251, u252, u253, u254, u255, u256, u257, u258, u259, u260, u261, u262, u263, u264, u265, u266, u267, u268, u269, u270, u271, u272, u273, u274, u275, u276, u277, u278, u279, u280, u281, u282, u283, u284, u285, u286, u287, u288, u289, u290, u291, u292, u293, u294, u295, u296, u297, u298, u299, u300, u301, u302, u303, u304, u305, u306, u307, u308, u309, u310, u311, u312, u313, u314, u315, u316, u317, u318, u319, u320, u321, u322, u323, u324, u325, u326, u327, u328, u329, u330, u331, u332, u333, u334, u335, u336, u337, u338, u339, u340, u341, u342, u343, u344, u345, u346, u347, u348, u349, u350, u351, u352, u353, u354, u355, u356, u357, u358, u359, u360, u361, u362, u363, u364, u365, u366, u367, u368, u369, u370, u371, u372, u373, u374], []⟩ wr) Q0) ⟨#[u0, u1, .int .u64 (EP : Int), u3, .slice ao xs.length cap, undef, undef, undef, undef, undef, u10, .pointer (some ⟨P0, 0, none⟩), .pointer (some ⟨p, 0, none⟩), u13, .pointer (some ⟨q, 0, none⟩), .int .i64 k, u16, u17, u18, u19, u20, u21, u22, u23, u24, u25, u26, u27, u28, u29, u30, u31, u32, u33, u34, u35, u36, u37, u38, u39, u40, u41, u42, u43, u44, u45, u46, u47, u48, u49, u50, u51, u52, u53, u54, u55, u56, u57, u58, u59, u60, u61, u62, u63, u64, u65, u66, u67, u68, u69, u70, u71, u72, u73, u74, u75, u76, u77, u78, u79, u80, u81, u82, u83, u84, u85, u86, u87, u88, u89, u90, u91, u92, u93, u94, u95, u96, u97, u98, u99, u100, u101, u102, u103, u104, u105, u106, u107, u108, u109, u110, u111, u112, u113, u114, u115, u116, u117, u118, u119, u120, u121, u122, u123, u124, u125, u126, u127, u128, u129, u130, u131, u132, u133, u134, u135, u136, u137, u138, u139, u140, u141, u142, u143, u144, u145, u146, u147, u148, u149, u150, u151, u152, u153, u154, u155, u156, u157, u158, u159, u160, u161, u162, u163, u164, u165, u166, u167, u168, u169, u170, u171, u172, u173, u174, u175, u176, u177, u178, u179, u180, u181, u182, u183, u184, u185, u186, u187, u188, u189, u190, u191, u192, u193, u194, u195, u196, u197, u198, u199, u200, u201, u202, u203, u204, u205, u206, u207, u208, u209, u210, u211, u212, u213, u214, u215, u216, u217, u218, u219, u220, u221, u222, u223, u224, u225, u226, u227, u228, u229, u230, u231, u232, u233, u234, u235, u236, u237, u238, u239, u240, u241, u242, u243, u244, u245, u246, u247, u248, u249, u250, u251, u252, u253, u254, u255, u256, u257, u258, u259, u260, u261, u262, u263, u264, u265, u266, u267, u268, u269, u270, u271, u272, u273, u274, u275, u276, u277, u278, u279, u280, u281, u282, u283, u284, u285, u286, u287, u288, u289, u290, u291, u292, u293, u294, u295, u296, u297, u298, u299, u300, u301, u302, u303, u304, u305, u306, u307, u308, u309, u310, u311, u312, u313, u314, u315, u316, u317, u318, u319, u320, u321, u322, u323, u324, u325, u326, u327, u328, u329, u330, u331, u332, u333, u334, u335, u336, u337, u338, u339, u340, u341, u342, u343, u344, u345, u346, u347, u348, u349, u350, u351, u352, u353, u354, u355, u356, u357, u358, u359, u360, u361, u362, u363, u364, u365, u366, u367, u368, u369, u370, u371, u372, u373, u374], []⟩ wr := by
  conv => arg 2; whnf
  obtain ⟨b, o, rfl, hok, hrg⟩ := HR.out k hlt
  obtain ⟨y, hy⟩ : ∃ y, y = xs[k] := ⟨_, rfl⟩
  rw [← hy] at hok hrg hkd hin
  have HOK : Hid (OeOk w1 y) := hok
  have hk0 : (0 : Int) ≤ (k : Int) := by omega
  have hkI : (k : Int) < (xs.length : Int) := by omega
  have hkw : IntKind.i64.wrap ((k : Int) + 1) = ((k + 1 : Nat) : Int) := by rw [IntKind.wrap_i64]; omega
  have hLD := rangeAt_below hrg HB.out
  obtain ⟨wa, hwa⟩ : ∃ wa, wa = wr.alloc (.cells y.c tOe) := ⟨_, rfl⟩
  have hba : Below wr.heap.size wr wa := by rw [hwa]; exact alw (Below.refl _ _) _
  have hbxa : wa.heap[wr.heap.size]? = some (.cells y.c tOe (0, 0)) := by rw [hwa]; exact heap_alloc_new wr _
  have hoc := oeCells hbxa
  have hHa : Exb wa (fun b => b < w1.heap.size ∨ b = wr.heap.size) p ms mn pw mw V q v s s := by rw [hwa]; exact HE.out.box _
  have HEa : Hid _ := hHa
  have HBa : Hid (Below w1.heap.size w1 wa) := below_next HB.out hba
  have HXa : Hid _ := hbxa
  have HWA : Hid (wa = _) := hwa
  have HSZa : Hid (w1.heap.size ≤ wr.heap.size ∧ wr.heap.size < wa.heap.size) := ⟨HB.out.size, (Array.getElem?_eq_some_iff.1 hbxa).1⟩
  rw [hwa] at hoc
  clear hy hok hrg hwa hba hbxa hHa
  have k1 : (y.kd == 1) = false := by simp [hkd]
  have k2 : (y.kd == 2) = false := by simp [hkd]
  have k3 : (y.kd == 3) = false := by simp [hkd]
  have k4 : (y.kd == 4) = true := by simp [hkd]
  clear hkd
  go_upto_region 52 with (first
    | (refine wpList_load_g (by rfl) tOe _ rfl b (o + k * 15) (by rfl) y.c.toList _ hLD Tryz.underlying43 rfl infoOe ?_))
  rw [← HWA.out] at hoc ⊢
  clear hLD
  have HOF : Hid _ := bof_no HEa.out.b y.k hin
  have HIN : Hid _ := hin
  clear hin
  go_wp2_with fail
  refine Calls.mono HOF.out ?_
  rintro e9 w2 ⟨rfl, hb2⟩
  obtain ⟨w3, hw3⟩ : ∃ w3, w3 = w2.alloc (.cells #[.int .u64 0, .int .i64 0, .int .u64 0, .int .u64 0] tBs) := ⟨_, rfl⟩
  have hE3 := (HEa.out.below hb2).box (.cells #[.int .u64 0, .int .i64 0, .int .u64 0, .int .u64 0] tBs)
  rw [← hw3] at hE3
  have hbx3 : w3.heap[w2.heap.size]? = some (.cells #[.int .u64 0, .int .i64 0, .int .u64 0, .int .u64 0] tBs (0, 0)) := by rw [hw3]; exact heap_alloc_new w2 _
  have hb3 : Below w2.heap.size w2 w3 := by rw [hw3]; exact alw (Below.refl _ _) _
  have hxa3 := (hb3.block _ (Nat.lt_of_lt_of_le HSZa.out.2 hb2.size)).trans ((hb2.block _ HSZa.out.2).trans HXa.out)
  have hoc3 := oeCells hxa3
  rw [hw3] at hoc3
  have HE3 : Hid _ := hE3
  have HB3 : Hid (Below w1.heap.size w1 w3) := below_next HBa.out (below_next hb2 hb3)
  have HX3 : Hid _ := hbx3
  have HW3 : Hid (w3 = _) := hw3
  clear hb2 hw3 hE3 hbx3 hb3 hxa3 hoc
  go_wp2_with fail
  rw [← HW3.out] at hoc3 ⊢
  clear hoc3
  have HSP : Hid _ := xstop_out HE3.out.a y.k HOK.out.kf HIN.out
  refine Calls.mono HSP.out ?_
  rintro e9 w4 ⟨rfl, hb4⟩
  have hbx4 := (hb4.block w2.heap.size (Array.getElem?_eq_some_iff.1 HX3.out).1).trans HX3.out
  have hc4 : w4.cell? ⟨w2.heap.size, 0, none⟩ = some (.int .u64 0) := by rw [cell_of_row _ _ _ _ _ _ hbx4]; rfl
  have HE4 : Hid (Exb w4 _ p ms mn pw mw V q v s s) := (HE3.out.below hb4).less (H' := fun b => b < w1.heap.size ∨ b = wr.heap.size) (fun b hb => .inl hb) (.inl hlt0)
  have HB4 : Hid (Below w1.heap.size w1 w4) := below_next HB3.out hb4
  clear hb4 hbx4
  go_upto_region 58 with (fail)
  clear hc4
  obtain ⟨n9, hn9⟩ : ∃ n9, n9 = (s).L.length := ⟨_, rfl⟩
  have hn64 : n9 ≤ 64 := by rw [hn9]; exact HE4.out.a.inv.len
  obtain ⟨a9, cp9, hv9, -, -, -, hrd9⟩ := OwnG.val HE4.out.b.row
  have hv9' : v = .slice a9 n9 cp9 := by rw [hn9]; exact hv9
  have hcs9 : ∀ u, Below w4.heap.size w4 u → u.cell? ⟨q, 0, none⟩ = some (.slice a9 n9 cp9) := fun u hu => by rw [← hv9']; exact (HE4.out.b.below hu).cell 0
  have hc9a := hcs9 w4 (Below.refl _ _)
  have HN9 : Hid _ := hn9
  have HR9 : Hid (RdG KBs w4 a9 (s).L) := hrd9
  clear hn9 hv9 hv9' hrd9
  go_wp2
  go_loopw [37, 38] (fun u j wv => ∃ i : Nat, i ≤ n9 ∧ j = .int .i64 (i : Int) ∧ OwnG KKy wv w4.heap.size u (((s).L.take i).map Xe.k) ∧ Below w4.heap.size w4 wv) (fun _ j _ => n9 - (intOf j).toNat)
  case atStart => exact ⟨0, Nat.zero_le _, rfl, World.ownsRow_nil _ _ _ _, Below.refl _ _⟩
  case round =>
    rename World => wv
    obtain ⟨i, hin, rfl, hown, hbv⟩ := hrel
    have hiw : IntKind.i64.wrap ((i : Int) + 1) = ((i + 1 : Nat) : Int) := by rw [IntKind.wrap_i64]; omega
    have hc9 := hcs9 wv hbv
    by_cases hlt9 : i < n9
    · have hlti : (i : Int) < (n9 : Int) := by omega
      have hi0 : (0 : Int) ≤ (i : Int) := by omega
      have hi1 : i < (s).L.length := by rw [← HN9.out]; exact hlt9
      obtain ⟨b9, o9, rfl, r1, -⟩ := RdG.below HR9.out hbv i hi1
      obtain ⟨x, hx⟩ : ∃ x : Xe, x = (s).L[i] := ⟨_, rfl⟩
      have g1 := r1 1 (.int .i64 x.k.1) (by rw [hx]; rfl)
      have g2 : wv.cell? ⟨b9, o9 + i * 4 + 1 + 1, none⟩ = some (.int .u64 (x.k.2 : Int)) := r1 2 (.int .u64 (x.k.2 : Int)) (by rw [hx]; rfl)
      have HT : Hid (((s).L.take i).map Xe.k ++ [x.k] = ((s).L.take (i + 1)).map Xe.k) := by unfold Hid; rw [List.take_succ_eq_append_getElem hi1, ← hx]; simp
      have HSZ : Hid (w4.heap.size ≤ wv.heap.size) := hbv.size
      have HO : Hid (OwnG KKy (wv.alloc (.cells #[.int .i64 x.k.1, .int .u64 (x.k.2 : Int)] tFk)) w4.heap.size u37 (((s).L.take i).map Xe.k)) := hown.below (alw (Below.refl _ _) _)
      have HL9 : Hid (∀ b, u37.ownBlock = some b → w4.heap.size ≤ b) := fun b hb => (hown.lt' hb).1
      obtain ⟨m9, hm9⟩ : ∃ m9, m9 = (((s).L.take i).map Xe.k).length := ⟨_, rfl⟩
      have hm64 : m9 ≤ 64 := by rw [hm9, List.length_map, List.length_take]; omega
      have HM9 : Hid _ := hm9
      have HBV : Hid _ := hbv
      clear r1 hx hi1 hown hbv hm9 hcs9
      go_wp2_with (at_builtin; refine wp_appG1 (K := KKy) rfl _ _ rfl w4.heap.size u37 (((s).L.take i).map Xe.k) x.k m9 HM9.out ⟨wv.heap.size, 0, none⟩ 1 rfl HO.out rfl (rdF_new wv x.k _ rfl) (by show (m9 + 1) * 16 ≤ _; omega) (by simp only [maxLen]; omega) (by have := HSZ.out; simp; omega) ?_; intro g7 c7 w7 hown7 hg7 hlie7; rw [HT.out] at hown7; have HO7 : Hid _ := hown7; have HG7 : Hid _ := hg7; clear hown7 hg7 hlie7)
      go_roundw
      case rel => exact ⟨i + 1, hlt9, by go_num, HO7.out, (alw HBV.out _).grown HG7.out (by have := HSZ.out; simp; omega) (fun j hj => HL9.out j hj)⟩
      case measure => simp [intOf]; omega
    · have hlti : ¬ (i : Int) < (n9 : Int) := by omega
      have htk : (s).L.take i = (s).L := List.take_of_length_le (by rw [← HN9.out]; omega)
      rw [htk] at hown
      have HEv : Hid _ := HE4.out.below hbv
      have HOV : Hid _ := hown
      obtain ⟨n8, hn8⟩ : ∃ n8, n8 = ((s).L.map Xe.k).length := ⟨_, rfl⟩
      have hn864 : n8 ≤ 64 := by rw [hn8, List.length_map, ← HN9.out]; exact hn64
      obtain ⟨ab, cb, hvb, -, -, -, hrb⟩ := hown.val
      rw [← hn8] at hvb
      subst hvb
      have HN8 : Hid _ := hn8
      have HRB : Hid (RdG KKy wv ab ((s).L.map Xe.k)) := hrb
      have HBV : Hid _ := hbv
      clear htk hown hbv hcs9 hn8 hrb
      go_wp2_with (first
        | (go_at_call 18; refine Calls.mono (xbusy_t HEv.out.a) ?_; rintro e9 w5 ⟨va, rfl, howna, hb5⟩; obtain ⟨aa, ca, hva, -, -, -, hra⟩ := howna.val; rw [← HN8.out] at hva; subst hva; have HRA : Hid (RdG KKy w5 aa ((s).L.map Xe.k)) := hra; have HB5 : Hid _ := hb5; clear howna hb5 hra)
        | (go_at_call 15; refine Calls.mono (sameKeys_t aa ab n8 ca cb ((s).L.map Xe.k) HN8.out (by omega) HRA.out (RdG.below HRB.out HB5.out)) ?_; rintro e9 w7 ⟨rfl, hb7⟩; have HB7 : Hid _ := hb7; clear hb7))
      refine ⟨?_, ?_⟩
      · unfold WIx
        iterate 365 (apply Exists.intro)
        have h9 := HEv.out.below (below_next HB5.out HB7.out)
        exact ⟨⟨k + 1, V, v, s, by omega, by go_num, Nat.le_trans HSB.out (Nat.le_succ _), HSC.out, h9.less (fun b hb => .inl hb) (Nat.lt_of_lt_of_le (Nat.lt_of_le_of_lt (Nat.zero_le _) hlt0) (Nat.le_refl _)), HB4.out.trans ((below_next HBV.out (below_next HB5.out HB7.out)).mono HB4.out.size)⟩, rfl⟩
      · simp [Wmux, intOf]; omega
end Go.Proofs.YtiedgcanndgmoaaGreatDoor
namespace Go.Proofs.YtiedgcanndgmoaaGreatDoor
set_option linter.unusedVariables false
set_option linter.unusedSimpArgs false
open Go.RowKit Go.Maps
set_option maxRecDepth 100000 in
set_option maxHeartbeats 12800000 in
theorem ocase2i (w1 : World) (ao : Option Addr) (cap : Nat) (xs : List Oe) (P0 p ms mn pw mw q M A EP : Nat) (hM : 16 ≤ M ∧ M ≤ 1024) (hAk : A ≤ 4096) (hEP : 1 ≤ EP ∧ EP ≤ 281474976710655) (hl : xs.length ≤ 4398046511103) (HR : Hid (RdOe w1 ao xs)) (HC : Hid (w1.heap[P0]? = some (.cells #[.int .i64 (M : Int), .int .u64 (A : Int), .int .u64 1, .int .i64 0, .int .i64 1, .int .i64 1] 25 (0, 0))))
    (u0 u1 u3 u10 u13 u16 u17 u18 u19 u20 u21 u22 u23 u24 u25 u26 u27 u28 u29 u30 u31 u32 u33 u34 u35 u36 u37 u38 u39 u40 u41 u42 u43 u44 u45 u46 u47 u48 u49 u50 u51 u52 u53 u54 u55 u56 u57 u58 u59 u60 u61 u62 u63 u64 u65 u66 u67 u68 u69 u70 u71 u72 u73 u74 u75 u76 u77 u78 u79 u80 u81 u82 u83 u84 u85 u86 u87 u88 u89 u90 u91 u92 u93 u94 u95 u96 u97 u98 u99 u100 u101 u102 u103 u104 u105 u106 u107 u108 u109 u110 u111 u112 u113 u114 u115 u116 u117 u118 u119 u120 u121 u122 u123 u124 u125 u126 u127 u128 u129 u130 u131 u132 u133 u134 u135 u136 u137 u138 u139 u140 u141 u142 u143 u144 u145 u146 u147 u148 u149 u150 u151 u152 u153 u154 u155 u156 u157 u158 u159 u160 u161 u162 u163 u164 u165 u166 u167 u168 u169 u170 u171 u172 u173 u174 u175 u176 u177 u178 u179 u180 u181 u182 u183 u184 u185 u186 u187 u188 u189 u190 u191 u192 u193 u194 u195 u196 u197 u198 u199 u200 u201 u202 u203 u204 u205 u206 u207 u208 u209 u210 u211 u212 u213 u214 u215 u216 u217 u218 u219 u220 u221 u222 u223 u224 u225 u226 u227 u228 u229 u230 u231 u232 u233 u234 u235 u236 u237 u238 u239 u240 u241 u242 u243 u244 u245 u246 u247 u248 u249 u250 u251 u252 u253 u254 u255 u256 u257 u258 u259 u260 u261 u262 u263 u264 u265 u266 u267 u268 u269 u270 u271 u272 u273 u274 u275 u276 u277 u278 u279 u280 u281 u282 u283 u284 u285 u286 u287 u288 u289 u290 u291 u292 u293 u294 u295 u296 u297 u298 u299 u300 u301 u302 u303 u304 u305 u306 u307 u308 u309 u310 u311 u312 u313 u314 u315 u316 u317 u318 u319 u320 u321 u322 u323 u324 u325 u326 u327 u328 u329 u330 u331 u332 u333 u334 u335 u336 u337 u338 u339 u340 u341 u342 u343 u344 u345 u346 u347 u348 u349 u350 u351 u352 u353 u354 u355 u356 u357 u358 u359 u360 u361 u362 u363 u364 u365 u366 u367 u368 u369 u370 u371 u372 u373 u374 : Value) (wr : World) (k : Nat) (V : Nat → Nat → Value) (v : Value) (s : Xs) (hk : k ≤ xs.length) (HSB : Hid (s.beg ≤ k)) (HSC : Hid (s.mtu = M ∧ s.ack = A ∧ s.ep = EP)) (HE : Hid (Exb wr (fun b => b < w1.heap.size) p ms mn pw mw V q v s s)) (HB : Hid (Below w1.heap.size w1 wr)) (hlt0 : 0 < w1.heap.size) (hlt : k < xs.length) (hkd : xs[k].kd = 2) (hin : xs[k].n ∈ s.L.map Xe.n) (Q0 : Exit → Act → World → Prop) :
    Code.wp Tryz.prog (TBx Tryz.f3.body) (Exit.then (fun a' w'' => WIx w1 ao cap xs P0 p ms mn pw mw q M A EP a' w'' ∧ Wmux xs.length a' w'' < Wmux xs.length ⟨#[u0, u1, .int .u64 (EP : Int), u3, .slice ao xs.length cap, undef, undef, undef, undef, undef, u10, .pointer (some ⟨P0, 0, none⟩), .pointer (some ⟨p, 0, none⟩), u13, .pointer (some ⟨q, 0, none⟩), .int .i64 k, u16, u17, u18, u19, u20, u21, u22, u23, u24, u25, u26, u27, u28, u29, u30, u31, u32, u33, u34, u35, u36, u37, u38, u39, u40, u41, u42, u43, u44, u45, u46, u47, u48, u49, u50, u51, u52, u53, u54, u55, u56, u57, u58, u59, u60, u61, u62, u63, u64, u65, u66, u67, u68, u69, u70, u71, u72, u73, u74, u75, u76, u77, u78, u79, u80, u81, u82, u83, u84, u85, u86, u87, u88, u89, u90, u91, u92, u93, u94, u95, u96, u97, u98, u99, u100, u101, u102, u103, u104, u105, u106, u107, u108, u109, u110, u111, u112, u113, u114, u115, u116, u117, u118, u119, u120, u121, u122, u123, u124, u125, u126, u127, u128, u129, u130, u131, u132, u133, u134, u135, u136, u137, u138, u139, u140, u141, u142, u143, u144, u145, u146, u147, u148, u149, u150, u151, u152, u153, u154, u155, u156, u157, u158, u159, u160, u161, u162, u163, u164, u165, u166, u167, u168, u169, u170, u171, u172, u173, u174, u175, u176, u177, u178, u179, u180, u181, u182, u183, u184, u185, u186, u187, u188, u189, u190, u191, u192, u193, u194, u195, u196, u197, u198, u199, u200, u201, u202, u203, u204, u205, u206, u207, u208, u209, u210, u211, u212, u213, u214, u215, u216, u217, u218, u219, u220, u221, u222, u223, u224, u225, u226, u227, u228, u229, u230, u231, u232, u233, u234, u235, u236, u237, u238, u239, u240, u241, u242, u243, u244, u245, u246, u247, u248, u249, u250, u251, u252, u253, u254, u255, u256, u257, u258, u259, u260, u261, u262, u263, u264, u265, u266, u267, u268, u269, u270, u271, u272, u273, u274, u275, u276, u277, u278, u279, u280, u281, u282, u283, u284, u285, u286, u287, u288, u289, u290, u291, u292, u293, u294, u295, u296, u297, u298, u299, u300, u301, u302, u303, u304, u305, u306, u307, u308, u309, u310, u311, u312, u313, u314, u315, u316, u317, u318, u319, u320, u321, u322, u323, u324, u325, u326, u327, u328, u329, u330, u331, u332, u333, u334, u335, u336, u337, u338, u339, u340, u341, u342, u343, u344, u345, u346, u347, u348, u349, u350, u351, u352, u353, u354, u355, u356, u357, u358, u359, u360, u361, u362, u363, u364, u365, u366, u367, u368, u369, u370, u371, u372, u373, u374], []⟩ wr) Q0) ⟨#[u0, u1, .int .u64 (EP : Int), u3, .slice ao xs.length cap, undef, undef, undef, undef, undef, u10, .pointer (some ⟨P0, 0, none⟩), .pointer (some ⟨p, 0, none⟩), u13, .pointer (some ⟨q, 0, none⟩), .int .i64 k, u16, u17, u18, u19, u20, u21, u22, u23, u24, u25, u26, u27, u28, u29, u30, u31, u32, u33, u34, u35, u36, u37, u38, u39, u40, u41, u42, u43, u44, u45, u46, u47, u48, u49, u50, u51, u52, u53, u54, u55, u56, u57, u58, u59, u60, u61, u62, u63, u64, u65, u66, u67, u68, u69, u70, u71, u72, u73, u74, u75, u76, u77, u78, u79, u80, u81, u82, u83, u84, u85, u86, u87, u88, u89, u90, u91, u92, u93, u94, u95, u96, u97, u98, u99, u100, u101, u102, u103, u104, u105, u106, u107, u108, u109, u110, u111, u112, u113, u114, u115, u116, u117, u118, u119, u120, u121, u122, u123, u124, u125, u126, u127, u128, u129, u130, u131, u132, u133, u134, u135, u136, u137, u138, u139, u140, u141, u142, u143, u144, u145, u146, u147, u148, u149, u150, u151, u152, u153, u154, u155, u156, u157, u158, u159, u160, u161, u162, u163, u164, u165, u166, u167, u168, u169, u170, u171, u172, u173, u174, u175, u176, u177, u178, u179, u180, u181, u182, u183, u184, u185, u186, u187, u188, u189, u190, u191, u192, u193, u194, u195, u196, u197, u198, u199, u200, u201, u202, u203, u204, u205, u206, u207, u208, u209, u210, u211, u212, u213, u214, u215, u216, u217, u218, u219, u220, u221, u222, u223, u224, u225, u226, u227, u228, u229, u230, u231, u232, u233, u234, u235, u236, u237, u238, u239, u240, u241, u242, u243, u244, u245, u246, u247, u248, u249, u250, u251, u252, u253, u254, u255, u256, u257, u258, u259, u260, u261, u262, u263, u264, u265, u266, u267, u268, u269, u270, u271, u272, u273, u274, u275, u276, u277, u278, u279, u280, u281, u282, u283, u284, u285, u286, u287, u288, u289, u290, u291, u292, u293, u294, u295, u296, u297, u298, u299, u300, u301, u302, u303, u304, u305, u306, u307, u308, u309, u310, u311, u312, u313, u314, u315, u316, u317, u318, u319, u320, u321, u322, u323, u324, u325, u326, u327, u328, u329, u330, u331, u332, u333, u334, u335, u336, u337, u338, u339, u340, u341, u342, u343, u344, u345, u346, u347, u348, u349, u350, u351, u352, u353, u354, u355, u356, u357, u358, u359, u360, u361, u362, u363, u364, u365, u366, u367, u368, u369, u370, u371, u372, u373, u374], []⟩ wr := by
  conv => arg 2; whnf
  obtain ⟨b, o, rfl, hok, hrg⟩ := HR.out k hlt
  obtain ⟨y, hy⟩ : ∃ y, y = xs[k] := ⟨_, rfl⟩
  rw [← hy] at hok hrg hkd hin
  have HOK : Hid (OeOk w1 y) := hok
  have hk0 : (0 : Int) ≤ (k : Int) := by omega
  have hkI : (k : Int) < (xs.length : Int) := by omega
  have hkw : IntKind.i64.wrap ((k : Int) + 1) = ((k + 1 : Nat) : Int) := by rw [IntKind.wrap_i64]; omega
  have hLD := rangeAt_below hrg HB.out
  obtain ⟨wa, hwa⟩ : ∃ wa, wa = wr.alloc (.cells y.c tOe) := ⟨_, rfl⟩
  have hba : Below wr.heap.size wr wa := by rw [hwa]; exact alw (Below.refl _ _) _
  have hbxa : wa.heap[wr.heap.size]? = some (.cells y.c tOe (0, 0)) := by rw [hwa]; exact heap_alloc_new wr _
  have hoc := oeCells hbxa
  have hHa : Exb wa (fun b => b < w1.heap.size ∨ b = wr.heap.size) p ms mn pw mw V q v s s := by rw [hwa]; exact HE.out.box _
  have HEa : Hid _ := hHa
  have HBa : Hid (Below w1.heap.size w1 wa) := below_next HB.out hba
  have HXa : Hid _ := hbxa
  have HWA : Hid (wa = _) := hwa
  have HSZa : Hid (w1.heap.size ≤ wr.heap.size ∧ wr.heap.size < wa.heap.size) := ⟨HB.out.size, (Array.getElem?_eq_some_iff.1 hbxa).1⟩
  rw [hwa] at hoc
  clear hy hok hrg hwa hba hbxa hHa
  have k1 : (y.kd == 1) = false := by simp [hkd]
  have k2 : (y.kd == 2) = true := by simp [hkd]
  clear hkd
  go_upto_region 26 with (first
    | (refine wpList_load_g (by rfl) tOe _ rfl b (o + k * 15) (by rfl) y.c.toList _ hLD Tryz.underlying43 rfl infoOe ?_))
  rw [← HWA.out] at hoc ⊢
  clear hLD
  obtain ⟨R7, hR7⟩ : ∃ R7 : Nat, (y.now : Int) % 7 = (R7 : Int) := ⟨y.now % 7, by omega⟩
  have hR7b : R7 < 7 := by omega
  have hw7 : IntKind.i64.wrap (R7 : Int) = (R7 : Int) := by rw [IntKind.wrap_i64]; omega
  obtain ⟨CD, hCD, hC1, hC7⟩ : ∃ CD : Nat, IntKind.i64.wrap (1 + (R7 : Int)) = (CD : Int) ∧ 1 ≤ CD ∧ CD ≤ 7 := ⟨1 + R7, by rw [IntKind.wrap_i64]; omega, by omega, by omega⟩
  have HCD : Hid (1 ≤ CD ∧ CD ≤ 7) := ⟨hC1, hC7⟩
  obtain ⟨wb, hwb⟩ : ∃ wb, wb = wa.alloc (.cells (ucl 2 (EP : Int) (y.n : Int) 0 0 0 none 0 0 (CD : Int) none 0 0) 41) := ⟨_, rfl⟩
  have hEb := HEa.out.box (.cells (ucl 2 (EP : Int) (y.n : Int) 0 0 0 none 0 0 (CD : Int) none 0 0) 41)
  rw [← hwb] at hEb
  have hbb : Below wa.heap.size wa wb := by rw [hwb]; exact alw (Below.refl _ _) _
  have hub : wb.heap[wa.heap.size]? = some (.cells (ucl 2 (EP : Int) (y.n : Int) 0 0 0 none 0 0 (CD : Int) none 0 0) 41 (0, 0)) := by rw [hwb]; exact heap_alloc_new wa _
  have hoa : wb.heap[wr.heap.size]? = some (.cells y.c tOe (0, 0)) := (hbb.block _ HSZa.out.2).trans HXa.out
  have hocb := oeCells hoa
  rw [hwb] at hocb
  have HEb : Hid _ := hEb
  have HBb : Hid (Below w1.heap.size w1 wb) := below_next HBa.out hbb
  have HUb : Hid _ := hub
  have HOb : Hid _ := hoa
  have HWB : Hid (wb = _) := hwb
  have hdo := neq_do
  obtain ⟨x, hx, hxn⟩ := List.mem_map.1 hin
  have HX : Hid _ := hx
  have HXN : Hid _ := hxn
  have HNM : Hid _ := bnum_in hEb.b x hx
  rw [hxn] at HNM
  clear hin hx hxn hC1 hC7 hwb hEb hbb hub hoa
  go_wp2_with fail
  rw [← HWB.out] at hocb ⊢
  refine Calls.mono HNM.out ?_
  rintro e9 w2 ⟨rfl, hb2⟩
  obtain ⟨w3, hw3⟩ : ∃ w3, w3 = w2.alloc (.cells #[.int .u64 (x.n : Int), .int .i64 x.k.1, .int .u64 (x.k.2 : Int), .int .u64 (x.ov : Int)] tBs) := ⟨_, rfl⟩
  have hE3 := (HEb.out.below hb2).box (.cells #[.int .u64 (x.n : Int), .int .i64 x.k.1, .int .u64 (x.k.2 : Int), .int .u64 (x.ov : Int)] tBs)
  rw [← hw3] at hE3
  have hb3 : Below w2.heap.size w2 w3 := by rw [hw3]; exact alw (Below.refl _ _) _
  have hbb3 := below_next hb2 hb3
  have hu3 := (hbb3.block _ (Array.getElem?_eq_some_iff.1 HUb.out).1).trans HUb.out
  have ho3 := (hbb3.block _ (Array.getElem?_eq_some_iff.1 HOb.out).1).trans HOb.out
  have hx3 : w3.heap[w2.heap.size]? = some (.cells #[.int .u64 (x.n : Int), .int .i64 x.k.1, .int .u64 (x.k.2 : Int), .int .u64 (x.ov : Int)] tBs (0, 0)) := by rw [hw3]; exact heap_alloc_new w2 _
  have HE3 : Hid _ := hE3
  have HB3 : Hid (Below w1.heap.size w1 w3) := below_next HBb.out hbb3
  have HU3 : Hid _ := hu3
  have HO3 : Hid _ := ho3
  have HX3 : Hid _ := hx3
  have HW3 : Hid (w3 = _) := hw3
  rw [hw3] at hu3
  clear hb2 hw3 hE3 hb3 hbb3 ho3 hx3 hocb hoc
  go_wp2_with (first
    | (refine wpList_load_g (by rfl) 41 _ rfl wa.heap.size 0 (by rfl) [.int .i64 2, .int .u64 (EP : Int), .int .u64 (y.n : Int), .int .i64 0, .int .i64 0, .int .i64 0, .slice none 0 0, .int .i64 (CD : Int), .slice none 0 0] _ (box_range hu3) Tryz.underlying41 rfl info_un ?_))
  rw [← HW3.out]
  clear hu3
  have HHR : Hid _ := xhear_hit HE3.out.a x HX.out CD EP HSC.out.2.2 HCD.out
  rw [HXN.out] at HHR
  refine Calls.mono HHR.out ?_
  rintro e9 w4 ⟨rfl, V2, hst, hstp⟩
  have hp4 := HE3.out.prog hst hstp
  have HE4 : Hid _ := hp4.1
  have HB4 : Hid (Below w1.heap.size w1 w4) := chg_below HB3.out (hp4.2.mono (fun b hb hh => hb (.inl (.inl (.inl hh)))))
  have hk4 : ∀ b, (((b < w1.heap.size ∨ b = wr.heap.size) ∨ b = wa.heap.size) ∨ b = w2.heap.size) → w4.heap[b]? = w3.heap[b]? := fun b hb => hp4.2.block b (HE3.out.av b hb).1 (fun h9 => h9 hb)
  clear hst hstp hp4
  have hu4 := (hk4 wa.heap.size (.inl (.inr rfl))).trans HU3.out
  have ho4 := (hk4 wr.heap.size (.inl (.inl (.inr rfl)))).trans HO3.out
  have hx4 := (hk4 w2.heap.size (.inr rfl)).trans HX3.out
  have hld : ∀ u, Below w4.heap.size w4 u → u.cell? ⟨wr.heap.size, 1, none⟩ = some (.int .u64 (y.n : Int)) ∧ u.cell? ⟨wa.heap.size, 7, none⟩ = some (.int .i64 (CD : Int)) ∧ u.cell? ⟨w2.heap.size, 1, none⟩ = some (.int .i64 x.k.1) ∧ u.cell? ⟨w2.heap.size, 2, none⟩ = some (.int .u64 (x.k.2 : Int)) := fun u hu => by
    have p1 := (hu.block _ (Array.getElem?_eq_some_iff.1 ho4).1).trans ho4
    have p2 := (hu.block _ (Array.getElem?_eq_some_iff.1 hu4).1).trans hu4
    have p3 := (hu.block _ (Array.getElem?_eq_some_iff.1 hx4).1).trans hx4
    refine ⟨?_, ?_, ?_, ?_⟩
    · rw [cell_of_row _ _ _ _ _ _ p1]; rfl
    · rw [cell_of_row _ _ _ _ _ _ p2]; rfl
    · rw [cell_of_row _ _ _ _ _ _ p3]; rfl
    · rw [cell_of_row _ _ _ _ _ _ p3]; rfl
  have hl0 := hld ((w4.alloc (.cells #[.int .i64 x.k.1, .int .u64 (x.k.2 : Int), .int .i64 (CD : Int)] tDo)).alloc (.cells #[.int .i64 0, .int .u64 0, .int .i64 0] tDo)) (alw (alw (Below.refl _ _) _) _)
  have hl1 := hld ((w4.alloc (.cells #[.int .i64 x.k.1, .int .u64 (x.k.2 : Int), .int .i64 (CD : Int)] tDo)).alloc (.cells #[.int .i64 x.k.1, .int .u64 (x.k.2 : Int), .int .i64 (CD : Int)] tDo)) (alw (alw (Below.refl _ _) _) _)
  obtain ⟨wd, hwd⟩ : ∃ wd, wd = w4.alloc (.cells #[.int .i64 x.k.1, .int .u64 (x.k.2 : Int), .int .i64 (CD : Int)] tDo) := ⟨_, rfl⟩
  obtain ⟨w5, hw5⟩ : ∃ w5, w5 = wd.alloc (.cells #[.int .i64 x.k.1, .int .u64 (x.k.2 : Int), .int .i64 (CD : Int)] tDo) := ⟨_, rfl⟩
  have hEd := HE4.out.box (.cells #[.int .i64 x.k.1, .int .u64 (x.k.2 : Int), .int .i64 (CD : Int)] tDo)
  rw [← hwd] at hEd
  have hE5 := hEd.box (.cells #[.int .i64 x.k.1, .int .u64 (x.k.2 : Int), .int .i64 (CD : Int)] tDo)
  rw [← hw5] at hE5
  have hzd : wd.heap.size = w4.heap.size + 1 := by rw [hwd]; simp
  have hb5 : Below w4.heap.size w4 w5 := by rw [hw5, hwd]; exact alw (alw (Below.refl _ _) _) _
  have hd5 : w5.heap[w4.heap.size]? = some (.cells #[.int .i64 x.k.1, .int .u64 (x.k.2 : Int), .int .i64 (CD : Int)] tDo (0, 0)) := by rw [hw5, Below.heap_alloc _ _ _ (by rw [hzd]; omega), hwd]; exact heap_alloc_new w4 _
  have hn5 : w5.heap[w4.heap.size + 1]? = some (.cells #[.int .i64 x.k.1, .int .u64 (x.k.2 : Int), .int .i64 (CD : Int)] tDo (0, 0)) := by rw [hw5, ← hzd]; exact heap_alloc_new wd _
  have hu5 := (hb5.block _ (Array.getElem?_eq_some_iff.1 hu4).1).trans hu4
  have HE5 : Hid (Exb w5 (fun b => ((((b < w1.heap.size ∨ b = wr.heap.size) ∨ b = wa.heap.size) ∨ b = w2.heap.size) ∨ b = w4.heap.size) ∨ b = w4.heap.size + 1) p ms mn pw mw V2 q v { s with L := dropX s.L y.n } s) := by rw [hzd] at hE5; exact hE5
  have HB5x : Hid (Below w1.heap.size w1 w5) := below_next HB4.out hb5
  have HD5 : Hid _ := hd5
  have HN5 : Hid _ := hn5
  have HU5 : Hid _ := hu5
  have HW5 : Hid (w5 = (w4.alloc (.cells #[.int .i64 x.k.1, .int .u64 (x.k.2 : Int), .int .i64 (CD : Int)] tDo)).alloc (.cells #[.int .i64 x.k.1, .int .u64 (x.k.2 : Int), .int .i64 (CD : Int)] tDo)) := by rw [← hwd]; exact hw5
  have HG1 : Hid (w1.heap.size ≤ w4.heap.size) := HB4.out.size
  have HSZ4 : Hid (wr.heap.size < w4.heap.size) := (Array.getElem?_eq_some_iff.1 ho4).1
  clear hk4 hu4 ho4 hx4 hld hwd hw5 hEd hE5 hzd hb5 hd5 hn5 hu5
  have HOU : Hid _ := bout_t HE5.out.b y.n
  go_wp2_with fail
  rw [← HW5.out]
  refine Calls.mono HOU.out ?_
  rintro e9 w6 ⟨⟨u9, rfl⟩, v2, hbk, hbs⟩
  have hp6 := HE5.out.doc hbk hbs
  have HE6 : Hid (Exb w6 (fun b => ((((b < w1.heap.size ∨ b = wr.heap.size) ∨ b = wa.heap.size) ∨ b = w2.heap.size) ∨ b = w4.heap.size) ∨ b = w4.heap.size + 1) p ms mn pw mw V2 q v2 { s with L := dropX s.L y.n } { s with L := dropX s.L y.n }) := hp6.1
  have HB6 : Hid (Below w1.heap.size w1 w6) := chg_below HB5x.out (hp6.2.mono (fun b hb hh => hb (.inl (.inl (.inl (.inl (.inl hh)))))))
  have hk6 : ∀ b, (((((b < w1.heap.size ∨ b = wr.heap.size) ∨ b = wa.heap.size) ∨ b = w2.heap.size) ∨ b = w4.heap.size) ∨ b = w4.heap.size + 1) → w6.heap[b]? = w5.heap[b]? := fun b hb => hp6.2.block b (HE5.out.av b hb).1 (fun h9 => h9 hb)
  have hd6 := (hk6 w4.heap.size (.inl (.inr rfl))).trans HD5.out
  have hn6 := (hk6 (w4.heap.size + 1) (.inr rfl)).trans HN5.out
  have hu6 := (hk6 wa.heap.size (.inl (.inl (.inl (.inr rfl))))).trans HU5.out
  clear hbk hbs hp6 hk6 hl0 hl1
  obtain ⟨s9, hs9⟩ : ∃ s9 : Xs, s9 = { s with L := dropX s.L y.n } := ⟨_, rfl⟩
  have HSB9 : Hid (s9.beg ≤ k + 1) := by unfold Hid; rw [hs9]; exact Nat.le_trans HSB.out (Nat.le_succ _)
  have HSC9 : Hid (s9.mtu = M ∧ s9.ack = A ∧ s9.ep = EP) := by unfold Hid; rw [hs9]; exact HSC.out
  rw [← hs9] at HE6
  have HNO9 : Hid (y.n ∉ s9.L.map Xe.n) := by unfold Hid; rw [hs9]; exact drop_no _ _
  clear hs9
  have ad0 : w6.cell? ⟨w4.heap.size, 0, none⟩ = some (.int .i64 x.k.1) := by rw [cell_of_row _ _ _ _ _ _ hd6]; rfl
  have ad1 : w6.cell? ⟨w4.heap.size, 1, none⟩ = some (.int .u64 (x.k.2 : Int)) := by rw [cell_of_row _ _ _ _ _ _ hd6]; rfl
  have ad2 : w6.cell? ⟨w4.heap.size, 2, none⟩ = some (.int .i64 (CD : Int)) := by rw [cell_of_row _ _ _ _ _ _ hd6]; rfl
  have an0 : w6.cell? ⟨w4.heap.size + 1, 0, none⟩ = some (.int .i64 x.k.1) := by rw [cell_of_row _ _ _ _ _ _ hn6]; rfl
  have an1 : w6.cell? ⟨w4.heap.size + 1, 1, none⟩ = some (.int .u64 (x.k.2 : Int)) := by rw [cell_of_row _ _ _ _ _ _ hn6]; rfl
  have an2 : w6.cell? ⟨w4.heap.size + 1, 2, none⟩ = some (.int .i64 (CD : Int)) := by rw [cell_of_row _ _ _ _ _ _ hn6]; rfl
  have HHN : Hid _ := xhear_none HE6.out.a y.n CD EP HSC9.out.2.2 HNO9.out HCD.out
  have HD6 : Hid _ := hd6
  clear hd6 hn6
  go_wp2_with (first
    | (refine wpList_load_g (by rfl) 41 _ rfl wa.heap.size 0 (by rfl) [.int .i64 2, .int .u64 (EP : Int), .int .u64 (y.n : Int), .int .i64 0, .int .i64 0, .int .i64 0, .slice none 0 0, .int .i64 (CD : Int), .slice none 0 0] _ (box_range hu6) Tryz.underlying41 rfl info_un ?_))
  refine Calls.mono HHN.out ?_
  rintro e9 w7 ⟨rfl, hb7⟩
  have hd7 := (hb7.block w4.heap.size (Array.getElem?_eq_some_iff.1 HD6.out).1).trans HD6.out
  have ce0 : w7.cell? ⟨w4.heap.size, 0, none⟩ = some (.int .i64 x.k.1) := by rw [cell_of_row _ _ _ _ _ _ hd7]; rfl
  have ce1 : w7.cell? ⟨w4.heap.size, 1, none⟩ = some (.int .u64 (x.k.2 : Int)) := by rw [cell_of_row _ _ _ _ _ _ hd7]; rfl
  have ce2 : w7.cell? ⟨w4.heap.size, 2, none⟩ = some (.int .i64 (CD : Int)) := by rw [cell_of_row _ _ _ _ _ _ hd7]; rfl
  have fe0 : w7.frozen? ⟨w4.heap.size, 0, none⟩ = false := by simp [World.frozen?, hd7]
  have fe1 : w7.frozen? ⟨w4.heap.size, 1, none⟩ = false := by simp [World.frozen?, hd7]
  have fe2 : w7.frozen? ⟨w4.heap.size, 2, none⟩ = false := by simp [World.frozen?, hd7]
  have HE7 : Hid _ := HE6.out.below hb7
  have HB7x : Hid (Below w1.heap.size w1 w7) := below_next HB6.out hb7
  clear hb7 hd7 ad0 ad1 ad2 an0 an1 an2 hu6
  go_upto_region 58 with (fail)
  clear ce0 ce1 ce2 fe0 fe1 fe2
  obtain ⟨w8, hw8⟩ : ∃ w8, w8 = ((w7.setCell ⟨w4.heap.size, 0, none⟩ (.int .i64 0)).setCell ⟨w4.heap.size, 1, none⟩ (.int .u64 0)).setCell ⟨w4.heap.size, 2, none⟩ (.int .i64 0) := ⟨_, rfl⟩
  rw [← hw8]
  have hc8 : Chg (fun b => b = w4.heap.size) w7 w8 := by
    rw [hw8]
    exact ((Chg.of_grown (gset1 _ _ _ _) (fun b e => (Option.some.inj e).symm)).trans (Chg.of_grown (gset1 _ _ _ _) (fun b e => (Option.some.inj e).symm)) (fun b hb => .inl hb)).trans (Chg.of_grown (gset1 _ _ _ _) (fun b e => (Option.some.inj e).symm)) (fun b hb => .inl hb)
  have HE8 : Hid (Exb w8 (fun b => b < w1.heap.size ∨ b = wr.heap.size) p ms mn pw mw V2 q v2 s9 s9) := (HE7.out.less (H' := fun b => b < w1.heap.size ∨ b = wr.heap.size) (fun b hb => .inl (.inl (.inl (.inl hb)))) (.inl hlt0)).chg0 hc8 (fun b e => by rw [e]; exact (HE7.out.av w4.heap.size (.inl (.inr rfl))).2.1) (fun b e => by rw [e]; exact (HE7.out.av w4.heap.size (.inl (.inr rfl))).2.2) (fun b e hb => by
    have h1 := HG1.out
    have h2 := HSZ4.out
    rcases hb with hb | hb <;> omega)
  have HB8 : Hid (Below w1.heap.size w1 w8) := ⟨hc8.os.trans HB7x.out.os, hc8.tape.trans HB7x.out.tape, hc8.output.trans HB7x.out.output, Nat.le_trans HB7x.out.size hc8.size, fun j hj => (hc8.block j (Nat.lt_of_lt_of_le hj HB7x.out.size) (fun e => by have h1 := HG1.out; omega)).trans (HB7x.out.block j hj)⟩
  clear hw8 hc8
  obtain ⟨n9, hn9⟩ : ∃ n9, n9 = (s9).L.length := ⟨_, rfl⟩
  have hn64 : n9 ≤ 64 := by rw [hn9]; exact HE8.out.a.inv.len
  obtain ⟨a9, cp9, hv9, -, -, -, hrd9⟩ := OwnG.val HE8.out.b.row
  have hv9' : v2 = .slice a9 n9 cp9 := by rw [hn9]; exact hv9
  have hcs9 : ∀ u, Below w8.heap.size w8 u → u.cell? ⟨q, 0, none⟩ = some (.slice a9 n9 cp9) := fun u hu => by rw [← hv9']; exact (HE8.out.b.below hu).cell 0
  have hc9a := hcs9 w8 (Below.refl _ _)
  have HN9 : Hid _ := hn9
  have HR9 : Hid (RdG KBs w8 a9 (s9).L) := hrd9
  clear hn9 hv9 hv9' hrd9
  go_wp2
  go_loopw [37, 38] (fun u j wv => ∃ i : Nat, i ≤ n9 ∧ j = .int .i64 (i : Int) ∧ OwnG KKy wv w8.heap.size u (((s9).L.take i).map Xe.k) ∧ Below w8.heap.size w8 wv) (fun _ j _ => n9 - (intOf j).toNat)
  case atStart => exact ⟨0, Nat.zero_le _, rfl, World.ownsRow_nil _ _ _ _, Below.refl _ _⟩
  case round =>
    rename World => wv
    obtain ⟨i, hin, rfl, hown, hbv⟩ := hrel
    have hiw : IntKind.i64.wrap ((i : Int) + 1) = ((i + 1 : Nat) : Int) := by rw [IntKind.wrap_i64]; omega
    have hc9 := hcs9 wv hbv
    by_cases hlt9 : i < n9
    · have hlti : (i : Int) < (n9 : Int) := by omega
      have hi0 : (0 : Int) ≤ (i : Int) := by omega
      have hi1 : i < (s9).L.length := by rw [← HN9.out]; exact hlt9
      obtain ⟨b9, o9, rfl, r1, -⟩ := RdG.below HR9.out hbv i hi1
      obtain ⟨x, hx⟩ : ∃ x : Xe, x = (s9).L[i] := ⟨_, rfl⟩
      have g1 := r1 1 (.int .i64 x.k.1) (by rw [hx]; rfl)
      have g2 : wv.cell? ⟨b9, o9 + i * 4 + 1 + 1, none⟩ = some (.int .u64 (x.k.2 : Int)) := r1 2 (.int .u64 (x.k.2 : Int)) (by rw [hx]; rfl)
      have HT : Hid (((s9).L.take i).map Xe.k ++ [x.k] = ((s9).L.take (i + 1)).map Xe.k) := by unfold Hid; rw [List.take_succ_eq_append_getElem hi1, ← hx]; simp
      have HSZ : Hid (w8.heap.size ≤ wv.heap.size) := hbv.size
      have HO : Hid (OwnG KKy (wv.alloc (.cells #[.int .i64 x.k.1, .int .u64 (x.k.2 : Int)] tFk)) w8.heap.size u37 (((s9).L.take i).map Xe.k)) := hown.below (alw (Below.refl _ _) _)
      have HL9 : Hid (∀ b, u37.ownBlock = some b → w8.heap.size ≤ b) := fun b hb => (hown.lt' hb).1
      obtain ⟨m9, hm9⟩ : ∃ m9, m9 = (((s9).L.take i).map Xe.k).length := ⟨_, rfl⟩
      have hm64 : m9 ≤ 64 := by rw [hm9, List.length_map, List.length_take]; omega
      have HM9 : Hid _ := hm9
      have HBV : Hid _ := hbv
      clear r1 hx hi1 hown hbv hm9 hcs9
      go_wp2_with (at_builtin; refine wp_appG1 (K := KKy) rfl _ _ rfl w8.heap.size u37 (((s9).L.take i).map Xe.k) x.k m9 HM9.out ⟨wv.heap.size, 0, none⟩ 1 rfl HO.out rfl (rdF_new wv x.k _ rfl) (by show (m9 + 1) * 16 ≤ _; omega) (by simp only [maxLen]; omega) (by have := HSZ.out; simp; omega) ?_; intro g7 c7 w7 hown7 hg7 hlie7; rw [HT.out] at hown7; have HO7 : Hid _ := hown7; have HG7 : Hid _ := hg7; clear hown7 hg7 hlie7)
      go_roundw
      case rel => exact ⟨i + 1, hlt9, by go_num, HO7.out, (alw HBV.out _).grown HG7.out (by have := HSZ.out; simp; omega) (fun j hj => HL9.out j hj)⟩
      case measure => simp [intOf]; omega
    · have hlti : ¬ (i : Int) < (n9 : Int) := by omega
      have htk : (s9).L.take i = (s9).L := List.take_of_length_le (by rw [← HN9.out]; omega)
      rw [htk] at hown
      have HEv : Hid _ := HE8.out.below hbv
      have HOV : Hid _ := hown
      obtain ⟨n8, hn8⟩ : ∃ n8, n8 = ((s9).L.map Xe.k).length := ⟨_, rfl⟩
      have hn864 : n8 ≤ 64 := by rw [hn8, List.length_map, ← HN9.out]; exact hn64
      obtain ⟨ab, cb, hvb, -, -, -, hrb⟩ := hown.val
      rw [← hn8] at hvb
      subst hvb
      have HN8 : Hid _ := hn8
      have HRB : Hid (RdG KKy wv ab ((s9).L.map Xe.k)) := hrb
      have HBV : Hid _ := hbv
      clear htk hown hbv hcs9 hn8 hrb
      go_wp2_with (first
        | (go_at_call 18; refine Calls.mono (xbusy_t HEv.out.a) ?_; rintro e9 w5 ⟨va, rfl, howna, hb5⟩; obtain ⟨aa, ca, hva, -, -, -, hra⟩ := howna.val; rw [← HN8.out] at hva; subst hva; have HRA : Hid (RdG KKy w5 aa ((s9).L.map Xe.k)) := hra; have HB5 : Hid _ := hb5; clear howna hb5 hra)
        | (go_at_call 15; refine Calls.mono (sameKeys_t aa ab n8 ca cb ((s9).L.map Xe.k) HN8.out (by omega) HRA.out (RdG.below HRB.out HB5.out)) ?_; rintro e9 w7 ⟨rfl, hb7⟩; have HB7 : Hid _ := hb7; clear hb7))
      refine ⟨?_, ?_⟩
      · unfold WIx
        iterate 365 (apply Exists.intro)
        have h9 := HEv.out.below (below_next HB5.out HB7.out)
        exact ⟨⟨k + 1, V2, v2, s9, by omega, by go_num, HSB9.out, HSC9.out, h9.less (fun b hb => .inl hb) (Nat.lt_of_lt_of_le (Nat.lt_of_le_of_lt (Nat.zero_le _) hlt0) (Nat.le_refl _)), HB8.out.trans ((below_next HBV.out (below_next HB5.out HB7.out)).mono HB8.out.size)⟩, rfl⟩
      · simp [Wmux, intOf]; omega
end Go.Proofs.YtiedgcanndgmoaaGreatDoor
namespace Go.Proofs.YtiedgcanndgmoaaGreatDoor
set_option linter.unusedVariables false
set_option linter.unusedSimpArgs false
open Go.RowKit Go.Maps
set_option maxRecDepth 100000 in
set_option maxHeartbeats 12800000 in
theorem ocase2o (w1 : World) (ao : Option Addr) (cap : Nat) (xs : List Oe) (P0 p ms mn pw mw q M A EP : Nat) (hM : 16 ≤ M ∧ M ≤ 1024) (hAk : A ≤ 4096) (hEP : 1 ≤ EP ∧ EP ≤ 281474976710655) (hl : xs.length ≤ 4398046511103) (HR : Hid (RdOe w1 ao xs)) (HC : Hid (w1.heap[P0]? = some (.cells #[.int .i64 (M : Int), .int .u64 (A : Int), .int .u64 1, .int .i64 0, .int .i64 1, .int .i64 1] 25 (0, 0))))
    (u0 u1 u3 u10 u13 u16 u17 u18 u19 u20 u21 u22 u23 u24 u25 u26 u27 u28 u29 u30 u31 u32 u33 u34 u35 u36 u37 u38 u39 u40 u41 u42 u43 u44 u45 u46 u47 u48 u49 u50 u51 u52 u53 u54 u55 u56 u57 u58 u59 u60 u61 u62 u63 u64 u65 u66 u67 u68 u69 u70 u71 u72 u73 u74 u75 u76 u77 u78 u79 u80 u81 u82 u83 u84 u85 u86 u87 u88 u89 u90 u91 u92 u93 u94 u95 u96 u97 u98 u99 u100 u101 u102 u103 u104 u105 u106 u107 u108 u109 u110 u111 u112 u113 u114 u115 u116 u117 u118 u119 u120 u121 u122 u123 u124 u125 u126 u127 u128 u129 u130 u131 u132 u133 u134 u135 u136 u137 u138 u139 u140 u141 u142 u143 u144 u145 u146 u147 u148 u149 u150 u151 u152 u153 u154 u155 u156 u157 u158 u159 u160 u161 u162 u163 u164 u165 u166 u167 u168 u169 u170 u171 u172 u173 u174 u175 u176 u177 u178 u179 u180 u181 u182 u183 u184 u185 u186 u187 u188 u189 u190 u191 u192 u193 u194 u195 u196 u197 u198 u199 u200 u201 u202 u203 u204 u205 u206 u207 u208 u209 u210 u211 u212 u213 u214 u215 u216 u217 u218 u219 u220 u221 u222 u223 u224 u225 u226 u227 u228 u229 u230 u231 u232 u233 u234 u235 u236 u237 u238 u239 u240 u241 u242 u243 u244 u245 u246 u247 u248 u249 u250 u251 u252 u253 u254 u255 u256 u257 u258 u259 u260 u261 u262 u263 u264 u265 u266 u267 u268 u269 u270 u271 u272 u273 u274 u275 u276 u277 u278 u279 u280 u281 u282 u283 u284 u285 u286 u287 u288 u289 u290 u291 u292 u293 u294 u295 u296 u297 u298 u299 u300 u301 u302 u303 u304 u305 u306 u307 u308 u309 u310 u311 u312 u313 u314 u315 u316 u317 u318 u319 u320 u321 u322 u323 u324 u325 u326 u327 u328 u329 u330 u331 u332 u333 u334 u335 u336 u337 u338 u339 u340 u341 u342 u343 u344 u345 u346 u347 u348 u349 u350 u351 u352 u353 u354 u355 u356 u357 u358 u359 u360 u361 u362 u363 u364 u365 u366 u367 u368 u369 u370 u371 u372 u373 u374 : Value) (wr : World) (k : Nat) (V : Nat → Nat → Value) (v : Value) (s : Xs) (hk : k ≤ xs.length) (HSB : Hid (s.beg ≤ k)) (HSC : Hid (s.mtu = M ∧ s.ack = A ∧ s.ep = EP)) (HE : Hid (Exb wr (fun b => b < w1.heap.size) p ms mn pw mw V q v s s)) (HB : Hid (Below w1.heap.size w1 wr)) (hlt0 : 0 < w1.heap.size) (hlt : k < xs.length) (hkd : xs[k].kd = 2) (hin : xs[k].n ∉ s.L.map Xe.n) (Q0 : Exit → Act → World → Prop) :
    Code.wp Tryz.prog (TBx Tryz.f3.body) (Exit.then (fun a' w'' => WIx w1 ao cap xs P0 p ms mn pw mw q M A EP a' w'' ∧ Wmux xs.length a' w'' < Wmux xs.length ⟨#[u0, u1, .int .u64 (EP : Int), u3, .slice ao xs.length cap, undef, undef, undef, undef, undef, u10, .pointer (some ⟨P0, 0, none⟩), .pointer (some ⟨p, 0, none⟩), u13, .pointer (some ⟨q, 0, none⟩), .int .i64 k, u16, u17, u18, u19, u20, u21, u22, u23, u24, u25, u26, u27, u28, u29, u30, u31, u32, u33, u34, u35, u36, u37, u38, u39, u40, u41, u42, u43, u44, u45, u46, u47, u48, u49, u50, u51, u52, u53, u54, u55, u56, u57, u58, u59, u60, u61, u62, u63, u64, u65, u66, u67, u68, u69, u70, u71, u72, u73, u74, u75, u76, u77, u78, u79, u80, u81, u82, u83, u84, u85, u86, u87, u88, u89, u90, u91, u92, u93, u94, u95, u96, u97, u98, u99, u100, u101, u102, u103, u104, u105, u106, u107, u108, u109, u110, u111, u112, u113, u114, u115, u116, u117, u118, u119, u120, u121, u122, u123, u124, u125, u126, u127, u128, u129, u130, u131, u132, u133, u134, u135, u136, u137, u138, u139, u140, u141, u142, u143, u144, u145, u146, u147, u148, u149, u150, u151, u152, u153, u154, u155, u156, u157, u158, u159, u160, u161, u162, u163, u164, u165, u166, u167, u168, u169, u170, u171, u172, u173, u174, u175, u176, u177, u178, u179, u180, u181, u182, u183, u184, u185, u186, u187, u188, u189, u190, u191, u192, u193, u194, u195, u196, u197, u198, u199, u200, u201, u202, u203, u204, u205, u206, u207, u208, u209, u210, u211, u212, u213, u214, u215, u216, u217, u218, u219, u220, u221, u222, u223, u224, u225, u226, u227, u228, u229, u230, u231, u232, u233, u234, u235, u236, u237, u238, u239, u240, u241, u242, u243, u244, u245, u246, u247, u248, u249, u250, u251, u252, u253, u254, u255, u256, u257, u258, u259, u260, u261, u262, u263, u264, u265, u266, u267, u268, u269, u270, u271, u272, u273, u274, u275, u276, u277, u278, u279, u280, u281, u282, u283, u284, u285, u286, u287, u288, u289, u290, u291, u292, u293, u294, u295, u296, u297, u298, u299, u300, u301, u302, u303, u304, u305, u306, u307, u308, u309, u310, u311, u312, u313, u314, u315, u316, u317, u318, u319, u320, u321, u322, u323, u324, u325, u326, u327, u328, u329, u330, u331, u332, u333, u334, u335, u336, u337, u338, u339, u340, u341, u342, u343, u344, u345, u346, u347, u348, u349, u350, u351, u352, u353, u354, u355, u356, u357, u358, u359, u360, u361, u362, u363, u364, u365, u366, u367, u368, u369, u370, u371, u372, u373, u374], []⟩ wr) Q0) ⟨#[u0, u1, .int .u64 (EP : Int), u3, .slice ao xs.length cap, undef, undef, undef, undef, undef, u10, .pointer (some ⟨P0, 0, none⟩), .pointer (some ⟨p, 0, none⟩), u13, .pointer (some ⟨q, 0, none⟩), .int .i64 k, u16, u17, u18, u19, u20, u21, u22, u23, u24, u25, u26, u27, u28, u29, u30, u31, u32, u33, u34, u35, u36, u37, u38, u39, u40, u41, u42, u43, u44, u45, u46, u47, u48, u49, u50, u51, u52, u53, u54, u55, u56, u57, u58, u59, u60, u61, u62, u63, u64, u65, u66, u67, u68, u69, u70, u71, u72, u73, u74, u75, u76, u77, u78, u79, u80, u81, u82, u83, u84, u85, u86, u87, u88, u89, u90, u91, u92, u93, u94, u95, u96, u97, u98, u99, u100, u101, u102, u103, u104, u105, u106, u107, u108, u109, u110, u111, u112, u113, u114, u115, u116, u117, u118, u119, u120, u121, u122, u123, u124, u125, u126, u127, u128, u129, u130, u131, u132, u133, u134, u135, u136, u137, u138, u139, u140, u141, u142, u143, u144, u145, u146, u147, u148, u149, u150, u151, u152, u153, u154, u155, u156, u157, u158, u159, u160, u161, u162, u163, u164, u165, u166, u167, u168, u169, u170, u171, u172, u173, u174, u175, u176, u177, u178, u179, u180, u181, u182, u183, u184, u185, u186, u187, u188, u189, u190, u191, u192, u193, u194, u195, u196, u197, u198, u199, u200, u201, u202, u203, u204, u205, u206, u207, u208, u209, u210, u211, u212, u213, u214, u215, u216, u217, u218, u219, u220, u221, u222, u223, u224, u225, u226, u227, u228, u229, u230, u231, u232, u233, u234, u235, u236, u237, u238, u239, u240, u241, u242, u243, u244, u245, u246, u247, u248, u249, u250, u251, u252, u253, u254, u255, u256, u257, u258, u259, u260, u261, u262, u263, u264, u265, u266, u267, u268, u269, u270, u271, u272, u273, u274, u275, u276, u277, u278, u279, u280, u281, u282, u283, u284, u285, u286, u287, u288, u289, u290, u291, u292, u293, u294, u295, u296, u297, u298, u299, u300, u301, u302, u303, u304, u305, u306, u307, u308, u309, u310, u311, u312, u313, u314, u315, u316, u317, u318, u319, u320, u321, u322, u323, u324, u325, u326, u327, u328, u329, u330, u331, u332, u333, u334, u335, u336, u337, u338, u339, u340, u341, u342, u343, u344, u345, u346, u347, u348, u349, u350, u351, u352, u353, u354, u355, u356, u357, u358, u359, u360, u361, u362, u363, u364, u365, u366, u367, u368, u369, u370, u371, u372, u373, u374], []⟩ wr := by
  conv => arg 2; whnf
  obtain ⟨b, o, rfl, hok, hrg⟩ := HR.out k hlt
  obtain ⟨y, hy⟩ : ∃ y, y = xs[k] := ⟨_, rfl⟩
  rw [← hy] at hok hrg hkd hin
  have HOK : Hid (OeOk w1 y) := hok
  have hk0 : (0 : Int) ≤ (k : Int) := by omega
  have hkI : (k : Int) < (xs.length : Int) := by omega
  have hkw : IntKind.i64.wrap ((k : Int) + 1) = ((k + 1 : Nat) : Int) := by rw [IntKind.wrap_i64]; omega
  have hLD := rangeAt_below hrg HB.out
  obtain ⟨wa, hwa⟩ : ∃ wa, wa = wr.alloc (.cells y.c tOe) := ⟨_, rfl⟩
  have hba : Below wr.heap.size wr wa := by rw [hwa]; exact alw (Below.refl _ _) _
  have hbxa : wa.heap[wr.heap.size]? = some (.cells y.c tOe (0, 0)) := by rw [hwa]; exact heap_alloc_new wr _
  have hoc := oeCells hbxa
  have hHa : Exb wa (fun b => b < w1.heap.size ∨ b = wr.heap.size) p ms mn pw mw V q v s s := by rw [hwa]; exact HE.out.box _
  have HEa : Hid _ := hHa
  have HBa : Hid (Below w1.heap.size w1 wa) := below_next HB.out hba
  have HXa : Hid _ := hbxa
  have HWA : Hid (wa = _) := hwa
  have HSZa : Hid (w1.heap.size ≤ wr.heap.size ∧ wr.heap.size < wa.heap.size) := ⟨HB.out.size, (Array.getElem?_eq_some_iff.1 hbxa).1⟩
  rw [hwa] at hoc
  clear hy hok hrg hwa hba hbxa hHa
  have k1 : (y.kd == 1) = false := by simp [hkd]
  have k2 : (y.kd == 2) = true := by simp [hkd]
  clear hkd
  go_upto_region 26 with (first
    | (refine wpList_load_g (by rfl) tOe _ rfl b (o + k * 15) (by rfl) y.c.toList _ hLD Tryz.underlying43 rfl infoOe ?_))
  rw [← HWA.out] at hoc ⊢
  clear hLD
  obtain ⟨R7, hR7⟩ : ∃ R7 : Nat, (y.now : Int) % 7 = (R7 : Int) := ⟨y.now % 7, by omega⟩
  have hR7b : R7 < 7 := by omega
  have hw7 : IntKind.i64.wrap (R7 : Int) = (R7 : Int) := by rw [IntKind.wrap_i64]; omega
  obtain ⟨CD, hCD, hC1, hC7⟩ : ∃ CD : Nat, IntKind.i64.wrap (1 + (R7 : Int)) = (CD : Int) ∧ 1 ≤ CD ∧ CD ≤ 7 := ⟨1 + R7, by rw [IntKind.wrap_i64]; omega, by omega, by omega⟩
  have HCD : Hid (1 ≤ CD ∧ CD ≤ 7) := ⟨hC1, hC7⟩
  obtain ⟨wb, hwb⟩ : ∃ wb, wb = wa.alloc (.cells (ucl 2 (EP : Int) (y.n : Int) 0 0 0 none 0 0 (CD : Int) none 0 0) 41) := ⟨_, rfl⟩
  have hEb := HEa.out.box (.cells (ucl 2 (EP : Int) (y.n : Int) 0 0 0 none 0 0 (CD : Int) none 0 0) 41)
  rw [← hwb] at hEb
  have hbb : Below wa.heap.size wa wb := by rw [hwb]; exact alw (Below.refl _ _) _
  have hub : wb.heap[wa.heap.size]? = some (.cells (ucl 2 (EP : Int) (y.n : Int) 0 0 0 none 0 0 (CD : Int) none 0 0) 41 (0, 0)) := by rw [hwb]; exact heap_alloc_new wa _
  have hoa : wb.heap[wr.heap.size]? = some (.cells y.c tOe (0, 0)) := (hbb.block _ HSZa.out.2).trans HXa.out
  have hocb := oeCells hoa
  rw [hwb] at hocb
  have HEb : Hid _ := hEb
  have HBb : Hid (Below w1.heap.size w1 wb) := below_next HBa.out hbb
  have HUb : Hid _ := hub
  have HOb : Hid _ := hoa
  have HWB : Hid (wb = _) := hwb
  have hdo := neq_do
  have HNM : Hid _ := bnum_no hEb.b y.n hin
  have HIN : Hid _ := hin
  clear hin hC1 hC7 hwb hEb hbb hub hoa
  go_wp2_with fail
  rw [← HWB.out] at hocb ⊢
  refine Calls.mono HNM.out ?_
  rintro e9 w2 ⟨rfl, hb2⟩
  obtain ⟨w3, hw3⟩ : ∃ w3, w3 = w2.alloc (.cells #[.int .u64 0, .int .i64 0, .int .u64 0, .int .u64 0] tBs) := ⟨_, rfl⟩
  have hE3 := (HEb.out.below hb2).box (.cells #[.int .u64 0, .int .i64 0, .int .u64 0, .int .u64 0] tBs)
  rw [← hw3] at hE3
  have hb3 : Below w2.heap.size w2 w3 := by rw [hw3]; exact alw (Below.refl _ _) _
  have hbb3 := below_next hb2 hb3
  have hu3 := (hbb3.block _ (Array.getElem?_eq_some_iff.1 HUb.out).1).trans HUb.out
  have ho3 := (hbb3.block _ (Array.getElem?_eq_some_iff.1 HOb.out).1).trans HOb.out
  have hx3 : w3.heap[w2.heap.size]? = some (.cells #[.int .u64 0, .int .i64 0, .int .u64 0, .int .u64 0] tBs (0, 0)) := by rw [hw3]; exact heap_alloc_new w2 _
  have HE3 : Hid _ := hE3
  have HB3 : Hid (Below w1.heap.size w1 w3) := below_next HBb.out hbb3
  have HU3 : Hid _ := hu3
  have HO3 : Hid _ := ho3
  have HX3 : Hid _ := hx3
  have HW3 : Hid (w3 = _) := hw3
  rw [hw3] at hu3
  clear hb2 hw3 hE3 hb3 hbb3 ho3 hx3 hocb hoc
  go_wp2_with (first
    | (refine wpList_load_g (by rfl) 41 _ rfl wa.heap.size 0 (by rfl) [.int .i64 2, .int .u64 (EP : Int), .int .u64 (y.n : Int), .int .i64 0, .int .i64 0, .int .i64 0, .slice none 0 0, .int .i64 (CD : Int), .slice none 0 0] _ (box_range hu3) Tryz.underlying41 rfl info_un ?_))
  rw [← HW3.out]
  clear hu3
  have HHR : Hid _ := xhear_none HE3.out.a y.n CD EP HSC.out.2.2 HIN.out HCD.out
  refine Calls.mono HHR.out ?_
  rintro e9 w4 ⟨rfl, hb4⟩
  have HE4 : Hid _ := HE3.out.below hb4
  have HB4 : Hid (Below w1.heap.size w1 w4) := below_next HB3.out hb4
  have hk4 : ∀ b, (((b < w1.heap.size ∨ b = wr.heap.size) ∨ b = wa.heap.size) ∨ b = w2.heap.size) → w4.heap[b]? = w3.heap[b]? := fun b hb => hb4.block b (HE3.out.av b hb).1
  clear hb4
  have hu4 := (hk4 wa.heap.size (.inl (.inr rfl))).trans HU3.out
  have ho4 := (hk4 wr.heap.size (.inl (.inl (.inr rfl)))).trans HO3.out
  have hx4 := (hk4 w2.heap.size (.inr rfl)).trans HX3.out
  have hld : ∀ u, Below w4.heap.size w4 u → u.cell? ⟨wr.heap.size, 1, none⟩ = some (.int .u64 (y.n : Int)) ∧ u.cell? ⟨wa.heap.size, 7, none⟩ = some (.int .i64 (CD : Int)) ∧ u.cell? ⟨w2.heap.size, 1, none⟩ = some (.int .i64 0) ∧ u.cell? ⟨w2.heap.size, 2, none⟩ = some (.int .u64 0) := fun u hu => by
    have p1 := (hu.block _ (Array.getElem?_eq_some_iff.1 ho4).1).trans ho4
    have p2 := (hu.block _ (Array.getElem?_eq_some_iff.1 hu4).1).trans hu4
    have p3 := (hu.block _ (Array.getElem?_eq_some_iff.1 hx4).1).trans hx4
    refine ⟨?_, ?_, ?_, ?_⟩
    · rw [cell_of_row _ _ _ _ _ _ p1]; rfl
    · rw [cell_of_row _ _ _ _ _ _ p2]; rfl
    · rw [cell_of_row _ _ _ _ _ _ p3]; rfl
    · rw [cell_of_row _ _ _ _ _ _ p3]; rfl
  have hl0 := hld ((w4.alloc (.cells #[.int .i64 0, .int .u64 0, .int .i64 0] tDo)).alloc (.cells #[.int .i64 0, .int .u64 0, .int .i64 0] tDo)) (alw (alw (Below.refl _ _) _) _)
  have hl1 := hld ((w4.alloc (.cells #[.int .i64 0, .int .u64 0, .int .i64 0] tDo)).alloc (.cells #[.int .i64 0, .int .u64 0, .int .i64 0] tDo)) (alw (alw (Below.refl _ _) _) _)
  obtain ⟨wd, hwd⟩ : ∃ wd, wd = w4.alloc (.cells #[.int .i64 0, .int .u64 0, .int .i64 0] tDo) := ⟨_, rfl⟩
  obtain ⟨w5, hw5⟩ : ∃ w5, w5 = wd.alloc (.cells #[.int .i64 0, .int .u64 0, .int .i64 0] tDo) := ⟨_, rfl⟩
  have hEd := HE4.out.box (.cells #[.int .i64 0, .int .u64 0, .int .i64 0] tDo)
  rw [← hwd] at hEd
  have hE5 := hEd.box (.cells #[.int .i64 0, .int .u64 0, .int .i64 0] tDo)
  rw [← hw5] at hE5
  have hzd : wd.heap.size = w4.heap.size + 1 := by rw [hwd]; simp
  have hb5 : Below w4.heap.size w4 w5 := by rw [hw5, hwd]; exact alw (alw (Below.refl _ _) _) _
  have hd5 : w5.heap[w4.heap.size]? = some (.cells #[.int .i64 0, .int .u64 0, .int .i64 0] tDo (0, 0)) := by rw [hw5, Below.heap_alloc _ _ _ (by rw [hzd]; omega), hwd]; exact heap_alloc_new w4 _
  have hn5 : w5.heap[w4.heap.size + 1]? = some (.cells #[.int .i64 0, .int .u64 0, .int .i64 0] tDo (0, 0)) := by rw [hw5, ← hzd]; exact heap_alloc_new wd _
  have hu5 := (hb5.block _ (Array.getElem?_eq_some_iff.1 hu4).1).trans hu4
  have HE5 : Hid (Exb w5 (fun b => ((((b < w1.heap.size ∨ b = wr.heap.size) ∨ b = wa.heap.size) ∨ b = w2.heap.size) ∨ b = w4.heap.size) ∨ b = w4.heap.size + 1) p ms mn pw mw V q v s s) := by rw [hzd] at hE5; exact hE5
  have HB5x : Hid (Below w1.heap.size w1 w5) := below_next HB4.out hb5
  have HD5 : Hid _ := hd5
  have HN5 : Hid _ := hn5
  have HU5 : Hid _ := hu5
  have HW5 : Hid (w5 = (w4.alloc (.cells #[.int .i64 0, .int .u64 0, .int .i64 0] tDo)).alloc (.cells #[.int .i64 0, .int .u64 0, .int .i64 0] tDo)) := by rw [← hwd]; exact hw5
  have HG1 : Hid (w1.heap.size ≤ w4.heap.size) := HB4.out.size
  have HSZ4 : Hid (wr.heap.size < w4.heap.size) := (Array.getElem?_eq_some_iff.1 ho4).1
  have hd6 := hd5
  have hn6 := hn5
  have hu6 := hu5
  have HE6 : Hid (Exb w5 (fun b => ((((b < w1.heap.size ∨ b = wr.heap.size) ∨ b = wa.heap.size) ∨ b = w2.heap.size) ∨ b = w4.heap.size) ∨ b = w4.heap.size + 1) p ms mn pw mw V q v s s) := HE5.out
  have HB6 : Hid _ := HB5x.out
  have ad0 : w5.cell? ⟨w4.heap.size, 0, none⟩ = some (.int .i64 0) := by rw [cell_of_row _ _ _ _ _ _ hd6]; rfl
  have ad1 : w5.cell? ⟨w4.heap.size, 1, none⟩ = some (.int .u64 0) := by rw [cell_of_row _ _ _ _ _ _ hd6]; rfl
  have ad2 : w5.cell? ⟨w4.heap.size, 2, none⟩ = some (.int .i64 0) := by rw [cell_of_row _ _ _ _ _ _ hd6]; rfl
  have an0 : w5.cell? ⟨w4.heap.size + 1, 0, none⟩ = some (.int .i64 0) := by rw [cell_of_row _ _ _ _ _ _ hn6]; rfl
  have an1 : w5.cell? ⟨w4.heap.size + 1, 1, none⟩ = some (.int .u64 0) := by rw [cell_of_row _ _ _ _ _ _ hn6]; rfl
  have an2 : w5.cell? ⟨w4.heap.size + 1, 2, none⟩ = some (.int .i64 0) := by rw [cell_of_row _ _ _ _ _ _ hn6]; rfl
  rw [hw5, hwd] at ad0 ad1 ad2 an0 an1 an2 hu6
  clear hk4 hu4 ho4 hx4 hld hwd hw5 hEd hE5 hzd hb5 hd5 hn5 hu5 hl1
  have HHN : Hid _ := xhear_none HE6.out.a y.n CD EP HSC.out.2.2 HIN.out HCD.out
  have HD6 : Hid _ := hd6
  clear hd6 hn6
  go_wp2_with (first
    | (refine wpList_load_g (by rfl) 41 _ rfl wa.heap.size 0 (by rfl) [.int .i64 2, .int .u64 (EP : Int), .int .u64 (y.n : Int), .int .i64 0, .int .i64 0, .int .i64 0, .slice none 0 0, .int .i64 (CD : Int), .slice none 0 0] _ (box_range hu6) Tryz.underlying41 rfl info_un ?_))
  rw [← HW5.out]
  refine Calls.mono HHN.out ?_
  rintro e9 w7 ⟨rfl, hb7⟩
  have hd7 := (hb7.block w4.heap.size (Array.getElem?_eq_some_iff.1 HD6.out).1).trans HD6.out
  have ce0 : w7.cell? ⟨w4.heap.size, 0, none⟩ = some (.int .i64 0) := by rw [cell_of_row _ _ _ _ _ _ hd7]; rfl
  have ce1 : w7.cell? ⟨w4.heap.size, 1, none⟩ = some (.int .u64 0) := by rw [cell_of_row _ _ _ _ _ _ hd7]; rfl
  have ce2 : w7.cell? ⟨w4.heap.size, 2, none⟩ = some (.int .i64 0) := by rw [cell_of_row _ _ _ _ _ _ hd7]; rfl
  have fe0 : w7.frozen? ⟨w4.heap.size, 0, none⟩ = false := by simp [World.frozen?, hd7]
  have fe1 : w7.frozen? ⟨w4.heap.size, 1, none⟩ = false := by simp [World.frozen?, hd7]
  have fe2 : w7.frozen? ⟨w4.heap.size, 2, none⟩ = false := by simp [World.frozen?, hd7]
  have HE7 : Hid _ := HE6.out.below hb7
  have HB7x : Hid (Below w1.heap.size w1 w7) := below_next HB6.out hb7
  clear hb7 hd7 ad0 ad1 ad2 an0 an1 an2 hu6 hl0
  go_upto_region 58 with (fail)
  clear ce0 ce1 ce2 fe0 fe1 fe2
  obtain ⟨w8, hw8⟩ : ∃ w8, w8 = ((w7.setCell ⟨w4.heap.size, 0, none⟩ (.int .i64 0)).setCell ⟨w4.heap.size, 1, none⟩ (.int .u64 0)).setCell ⟨w4.heap.size, 2, none⟩ (.int .i64 0) := ⟨_, rfl⟩
  rw [← hw8]
  have hc8 : Chg (fun b => b = w4.heap.size) w7 w8 := by
    rw [hw8]
    exact ((Chg.of_grown (gset1 _ _ _ _) (fun b e => (Option.some.inj e).symm)).trans (Chg.of_grown (gset1 _ _ _ _) (fun b e => (Option.some.inj e).symm)) (fun b hb => .inl hb)).trans (Chg.of_grown (gset1 _ _ _ _) (fun b e => (Option.some.inj e).symm)) (fun b hb => .inl hb)
  have HE8 : Hid (Exb w8 (fun b => b < w1.heap.size ∨ b = wr.heap.size) p ms mn pw mw V q v s s) := (HE7.out.less (H' := fun b => b < w1.heap.size ∨ b = wr.heap.size) (fun b hb => .inl (.inl (.inl (.inl hb)))) (.inl hlt0)).chg0 hc8 (fun b e => by rw [e]; exact (HE7.out.av w4.heap.size (.inl (.inr rfl))).2.1) (fun b e => by rw [e]; exact (HE7.out.av w4.heap.size (.inl (.inr rfl))).2.2) (fun b e hb => by
    have h1 := HG1.out
    have h2 := HSZ4.out
    rcases hb with hb | hb <;> omega)
  have HB8 : Hid (Below w1.heap.size w1 w8) := ⟨hc8.os.trans HB7x.out.os, hc8.tape.trans HB7x.out.tape, hc8.output.trans HB7x.out.output, Nat.le_trans HB7x.out.size hc8.size, fun j hj => (hc8.block j (Nat.lt_of_lt_of_le hj HB7x.out.size) (fun e => by have h1 := HG1.out; omega)).trans (HB7x.out.block j hj)⟩
  clear hw8 hc8
  obtain ⟨n9, hn9⟩ : ∃ n9, n9 = (s).L.length := ⟨_, rfl⟩
  have hn64 : n9 ≤ 64 := by rw [hn9]; exact HE8.out.a.inv.len
  obtain ⟨a9, cp9, hv9, -, -, -, hrd9⟩ := OwnG.val HE8.out.b.row
  have hv9' : v = .slice a9 n9 cp9 := by rw [hn9]; exact hv9
  have hcs9 : ∀ u, Below w8.heap.size w8 u → u.cell? ⟨q, 0, none⟩ = some (.slice a9 n9 cp9) := fun u hu => by rw [← hv9']; exact (HE8.out.b.below hu).cell 0
  have hc9a := hcs9 w8 (Below.refl _ _)
  have HN9 : Hid _ := hn9
  have HR9 : Hid (RdG KBs w8 a9 (s).L) := hrd9
  clear hn9 hv9 hv9' hrd9
  go_wp2
  go_loopw [37, 38] (fun u j wv => ∃ i : Nat, i ≤ n9 ∧ j = .int .i64 (i : Int) ∧ OwnG KKy wv w8.heap.size u (((s).L.take i).map Xe.k) ∧ Below w8.heap.size w8 wv) (fun _ j _ => n9 - (intOf j).toNat)
  case atStart => exact ⟨0, Nat.zero_le _, rfl, World.ownsRow_nil _ _ _ _, Below.refl _ _⟩
  case round =>
    rename World => wv
    obtain ⟨i, hin, rfl, hown, hbv⟩ := hrel
    have hiw : IntKind.i64.wrap ((i : Int) + 1) = ((i + 1 : Nat) : Int) := by rw [IntKind.wrap_i64]; omega
    have hc9 := hcs9 wv hbv
    by_cases hlt9 : i < n9
    · have hlti : (i : Int) < (n9 : Int) := by omega
      have hi0 : (0 : Int) ≤ (i : Int) := by omega
      have hi1 : i < (s).L.length := by rw [← HN9.out]; exact hlt9
      obtain ⟨b9, o9, rfl, r1, -⟩ := RdG.below HR9.out hbv i hi1
      obtain ⟨x, hx⟩ : ∃ x : Xe, x = (s).L[i] := ⟨_, rfl⟩
      have g1 := r1 1 (.int .i64 x.k.1) (by rw [hx]; rfl)
      have g2 : wv.cell? ⟨b9, o9 + i * 4 + 1 + 1, none⟩ = some (.int .u64 (x.k.2 : Int)) := r1 2 (.int .u64 (x.k.2 : Int)) (by rw [hx]; rfl)
      have HT : Hid (((s).L.take i).map Xe.k ++ [x.k] = ((s).L.take (i + 1)).map Xe.k) := by unfold Hid; rw [List.take_succ_eq_append_getElem hi1, ← hx]; simp
      have HSZ : Hid (w8.heap.size ≤ wv.heap.size) := hbv.size
      have HO : Hid (OwnG KKy (wv.alloc (.cells #[.int .i64 x.k.1, .int .u64 (x.k.2 : Int)] tFk)) w8.heap.size u37 (((s).L.take i).map Xe.k)) := hown.below (alw (Below.refl _ _) _)
      have HL9 : Hid (∀ b, u37.ownBlock = some b → w8.heap.size ≤ b) := fun b hb => (hown.lt' hb).1
      obtain ⟨m9, hm9⟩ : ∃ m9, m9 = (((s).L.take i).map Xe.k).length := ⟨_, rfl⟩
      have hm64 : m9 ≤ 64 := by rw [hm9, List.length_map, List.length_take]; omega
      have HM9 : Hid _ := hm9
      have HBV : Hid _ := hbv
      clear r1 hx hi1 hown hbv hm9 hcs9
      go_wp2_with (at_builtin; refine wp_appG1 (K := KKy) rfl _ _ rfl w8.heap.size u37 (((s).L.take i).map Xe.k) x.k m9 HM9.out ⟨wv.heap.size, 0, none⟩ 1 rfl HO.out rfl (rdF_new wv x.k _ rfl) (by show (m9 + 1) * 16 ≤ _; omega) (by simp only [maxLen]; omega) (by have := HSZ.out; simp; omega) ?_; intro g7 c7 w7 hown7 hg7 hlie7; rw [HT.out] at hown7; have HO7 : Hid _ := hown7; have HG7 : Hid _ := hg7; clear hown7 hg7 hlie7)
      go_roundw
      case rel => exact ⟨i + 1, hlt9, by go_num, HO7.out, (alw HBV.out _).grown HG7.out (by have := HSZ.out; simp; omega) (fun j hj => HL9.out j hj)⟩
      case measure => simp [intOf]; omega
    · have hlti : ¬ (i : Int) < (n9 : Int) := by omega
      have htk : (s).L.take i = (s).L := List.take_of_length_le (by rw [← HN9.out]; omega)
      rw [htk] at hown
      have HEv : Hid _ := HE8.out.below hbv
      have HOV : Hid _ := hown
      obtain ⟨n8, hn8⟩ : ∃ n8, n8 = ((s).L.map Xe.k).length := ⟨_, rfl⟩
      have hn864 : n8 ≤ 64 := by rw [hn8, List.length_map, ← HN9.out]; exact hn64
      obtain ⟨ab, cb, hvb, -, -, -, hrb⟩ := hown.val
      rw [← hn8] at hvb
      subst hvb
      have HN8 : Hid _ := hn8
      have HRB : Hid (RdG KKy wv ab ((s).L.map Xe.k)) := hrb
      have HBV : Hid _ := hbv
      clear htk hown hbv hcs9 hn8 hrb
      go_wp2_with (first
        | (go_at_call 18; refine Calls.mono (xbusy_t HEv.out.a) ?_; rintro e9 w5 ⟨va, rfl, howna, hb5⟩; obtain ⟨aa, ca, hva, -, -, -, hra⟩ := howna.val; rw [← HN8.out] at hva; subst hva; have HRA : Hid (RdG KKy w5 aa ((s).L.map Xe.k)) := hra; have HB5 : Hid _ := hb5; clear howna hb5 hra)
        | (go_at_call 15; refine Calls.mono (sameKeys_t aa ab n8 ca cb ((s).L.map Xe.k) HN8.out (by omega) HRA.out (RdG.below HRB.out HB5.out)) ?_; rintro e9 w7 ⟨rfl, hb7⟩; have HB7 : Hid _ := hb7; clear hb7))
      refine ⟨?_, ?_⟩
      · unfold WIx
        iterate 365 (apply Exists.intro)
        have h9 := HEv.out.below (below_next HB5.out HB7.out)
        exact ⟨⟨k + 1, V, v, s, by omega, by go_num, Nat.le_trans HSB.out (Nat.le_succ _), HSC.out, h9.less (fun b hb => .inl hb) (Nat.lt_of_lt_of_le (Nat.lt_of_le_of_lt (Nat.zero_le _) hlt0) (Nat.le_refl _)), HB8.out.trans ((below_next HBV.out (below_next HB5.out HB7.out)).mono HB8.out.size)⟩, rfl⟩
      · simp [Wmux, intOf]; omega
end Go.Proofs.YtiedgcanndgmoaaGreatDoor
namespace Go.Proofs.YtiedgcanndgmoaaGreatDoor
set_option linter.unusedVariables false
set_option linter.unusedSimpArgs false
open Go.RowKit Go.Maps
set_option maxRecDepth 100000 in
set_option maxHeartbeats 12800000 in
theorem ocase3 (w1 : World) (ao : Option Addr) (cap : Nat) (xs : List Oe) (P0 p ms mn pw mw q M A EP : Nat) (hM : 16 ≤ M ∧ M ≤ 1024) (hAk : A ≤ 4096) (hEP : 1 ≤ EP ∧ EP ≤ 281474976710655) (hl : xs.length ≤ 4398046511103) (HR : Hid (RdOe w1 ao xs)) (HC : Hid (w1.heap[P0]? = some (.cells #[.int .i64 (M : Int), .int .u64 (A : Int), .int .u64 1, .int .i64 0, .int .i64 1, .int .i64 1] 25 (0, 0))))
    (u0 u1 u3 u10 u13 u16 u17 u18 u19 u20 u21 u22 u23 u24 u25 u26 u27 u28 u29 u30 u31 u32 u33 u34 u35 u36 u37 u38 u39 u40 u41 u42 u43 u44 u45 u46 u47 u48 u49 u50 u51 u52 u53 u54 u55 u56 u57 u58 u59 u60 u61 u62 u63 u64 u65 u66 u67 u68 u69 u70 u71 u72 u73 u74 u75 u76 u77 u78 u79 u80 u81 u82 u83 u84 u85 u86 u87 u88 u89 u90 u91 u92 u93 u94 u95 u96 u97 u98 u99 u100 u101 u102 u103 u104 u105 u106 u107 u108 u109 u110 u111 u112 u113 u114 u115 u116 u117 u118 u119 u120 u121 u122 u123 u124 u125 u126 u127 u128 u129 u130 u131 u132 u133 u134 u135 u136 u137 u138 u139 u140 u141 u142 u143 u144 u145 u146 u147 u148 u149 u150 u151 u152 u153 u154 u155 u156 u157 u158 u159 u160 u161 u162 u163 u164 u165 u166 u167 u168 u169 u170 u171 u172 u173 u174 u175 u176 u177 u178 u179 u180 u181 u182 u183 u184 u185 u186 u187 u188 u189 u190 u191 u192 u193 u194 u195 u196 u197 u198 u199 u200 u201 u202 u203 u204 u205 u206 u207 u208 u209 u210 u211 u212 u213 u214 u215 u216 u217 u218 u219 u220 u221 u222 u223 u224 u225 u226 u227 u228 u229 u230 u231 u232 u233 u234 u235 u236 u237 u238 u239 u240 u241 u242 u243 u244 u245 u246 u247 u248 u249 u250 u251 u252 u253 u254 u255 u256 u257 u258 u259 u260 u261 u262 u263 u264 u265 u266 u267 u268 u269 u270 u271 u272 u273 u274 u275 u276 u277 u278 u279 u280 u281 u282 u283 u284 u285 u286 u287 u288 u289 u290 u291 u292 u293 u294 u295 u296 u297 u298 u299 u300 u301 u302 u303 u304 u305 u306 u307 u308 u309 u310 u311 u312 u313 u314 u315 u316 u317 u318 u319 u320 u321 u322 u323 u324 u325 u326 u327 u328 u329 u330 u331 u332 u333 u334 u335 u336 u337 u338 u339 u340 u341 u342 u343 u344 u345 u346 u347 u348 u349 u350 u351 u352 u353 u354 u355 u356 u357 u358 u359 u360 u361 u362 u363 u364 u365 u366 u367 u368 u369 u370 u371 u372 u373 u374 : Value) (wr : World) (k : Nat) (V : Nat → Nat → Value) (v : Value) (s : Xs) (hk : k ≤ xs.length) (HSB : Hid (s.beg ≤ k)) (HSC : Hid (s.mtu = M ∧ s.ack = A ∧ s.ep = EP)) (HE : Hid (Exb wr (fun b => b < w1.heap.size) p ms mn pw mw V q v s s)) (HB : Hid (Below w1.heap.size w1 wr)) (hlt0 : 0 < w1.heap.size) (hlt : k < xs.length) (hkd : xs[k].kd = 3) (Q0 : Exit → Act → World → Prop) :
    Code.wp Tryz.prog (TBx Tryz.f3.body) (Exit.then (fun a' w'' => WIx w1 ao cap xs P0 p ms mn pw mw q M A EP a' w'' ∧ Wmux xs.length a' w'' < Wmux xs.length ⟨#[u0, u1, .int .u64 (EP : Int), u3, .slice ao xs.length cap, undef, undef, undef, undef, undef, u10, .pointer (some ⟨P0, 0, none⟩), .pointer (some ⟨p, 0, none⟩), u13, .pointer (some ⟨q, 0, none⟩), .int .i64 k, u16, u17, u18, u19, u20, u21, u22, u23, u24, u25, u26, u27, u28, u29, u30, u31, u32, u33, u34, u35, u36, u37, u38, u39, u40, u41, u42, u43, u44, u45, u46, u47, u48, u49, u50, u51, u52, u53, u54, u55, u56, u57, u58, u59, u60, u61, u62, u63, u64, u65, u66, u67, u68, u69, u70, u71, u72, u73, u74, u75, u76, u77, u78, u79, u80, u81, u82, u83, u84, u85, u86, u87, u88, u89, u90, u91, u92, u93, u94, u95, u96, u97, u98, u99, u100, u101, u102, u103, u104, u105, u106, u107, u108, u109, u110, u111, u112, u113, u114, u115, u116, u117, u118, u119, u120, u121, u122, u123, u124, u125, u126, u127, u128, u129, u130, u131, u132, u133, u134, u135, u136, u137, u138, u139, u140, u141, u142, u143, u144, u145, u146, u147, u148, u149, u150, u151, u152, u153, u154, u155, u156, u157, u158, u159, u160, u161, u162, u163, u164, u165, u166, u167, u168, u169, u170, u171, u172, u173, u174, u175, u176, u177, u178, u179, u180, u181, u182, u183, u184, u185, u186, u187, u188, u189, u190, u191, u192, u193, u194, u195, u196, u197, u198, u199, u200, u201, u202, u203, u204, u205, u206, u207, u208, u209, u210, u211, u212, u213, u214, u215, u216, u217, u218, u219, u220, u221, u222, u223, u224, u225, u226, u227, u228, u229, u230, u231, u232, u233, u234, u235, u236, u237, u238, u239, u240, u241, u242, u243, u244, u245, u246, u247, u248, u249, u250, u251, u252, u253, u254, u255, u256, u257, u258, u259, u260, u261, u262, u263, u264, u265, u266, u267, u268, u269, u270, u271, u272, u273, u274, u275, u276, u277, u278, u279, u280, u281, u282, u283, u284, u285, u286, u287, u288, u289, u290, u291, u292, u293, u294, u295, u296, u297, u298, u299, u300, u301, u302, u303, u304, u305, u306, u307, u308, u309, u310, u311, u312, u313, u314, u315, u316, u317, u318, u319, u320, u321, u322, u323, u324, u325, u326, u327, u328, u329, u330, u331, u332, u333, u334, u335, u336, u337, u338, u339, u340, u341, u342, u343, u344, u345, u346, u347, u348, u349, u350, u351, u352, u353, u354, u355, u356, u357, u358, u359, u360, u361, u362, u363, u364, u365, u366, u367, u368, u369, u370, u371, u372, u373, u374], []⟩ wr) Q0) ⟨#[u0, u1, .int .u64 (EP : Int), u3, .slice ao xs.length cap, undef, undef, undef, undef, undef, u10, .pointer (some ⟨P0, 0, none⟩), .pointer (some ⟨p, 0, none⟩), u13, .pointer (some ⟨q, 0, none⟩), .int .i64 k, u16, u17, u18, u19, u20, u21, u22, u23, u24, u25, u26, u27, u28, u29, u30, u31, u32, u33, u34, u35, u36, u37, u38, u39, u40, u41, u42, u43, u44, u45, u46, u47, u48, u49, u50, u51, u52, u53, u54, u55, u56, u57, u58, u59, u60, u61, u62, u63, u64, u65, u66, u67, u68, u69, u70, u71, u72, u73, u74, u75, u76, u77, u78, u79, u80, u81, u82, u83, u84, u85, u86, u87, u88, u89, u90, u91, u92, u93, u94, u95, u96, u97, u98, u99, u100, u101, u102, u103, u104, u105, u106, u107, u108, u109, u110, u111, u112, u113, u114, u115, u116, u117, u118, u119, u120, u121, u122, u123, u124, u125, u126, u127, u128, u129, u130, u131, u132, u133, u134, u135, u136, u137, u138, u139, u140, u141, u142, u143, u144, u145, u146, u147, u148, u149, u150, u151, u152, u153, u154, u155, u156, u157, u158, u159, u160, u161, u162, u163, u164, u165, u166, u167, u168, u169, u170, u171, u172, u173, u174, u175, u176, u177, u178, u179, u180, u181, u182, u183, u184, u185, u186, u187, u188, u189, u190, u191, u192, u193, u194, u195, u196, u197, u198, u199, u200, u201, u202, u203, u204, u205, u206, u207, u208, u209, u210, u211, u212, u213, u214, u215, u216, u217, u218, u219, u220, u221, u222, u223, u224, u225, u226, u227, u228, u229, u230, u231, u232, u233, u234, u235, u236, u237, u238, u239, u240, u241, u242, u243, u244, u245, u246, u247, u248, u249, u250, u251, u252, u253, u254, u255, u256, u257, u258, u259, u260, u261, u262, u263, u264, u265, u266, u267, u268, u269, u270, u271, u272, u273, u274, u275, u276, u277, u278, u279, u280, u281, u282, u283, u284, u285, u286, u287, u288, u289, u290, u291, u292, u293, u294, u295, u296, u297, u298, u299, u300, u301, u302, u303, u304, u305, u306, u307, u308, u309, u310, u311, u312, u313, u314, u315, u316, u317, u318, u319, u320, u321, u322, u323, u324, u325, u326, u327, u328, u329, u330, u331, u332, u333, u334, u335, u336, u337, u338, u339, u340, u341, u342, u343, u344, u345, u346, u347, u348, u349, u350, u351, u352, u353, u354, u355, u356, u357, u358, u359, u360, u361, u362, u363, u364, u365, u366, u367, u368, u369, u370, u371, u372, u373, u374], []⟩ wr := by
  conv => arg 2; whnf
  obtain ⟨b, o, rfl, hok, hrg⟩ := HR.out k hlt
  obtain ⟨y, hy⟩ : ∃ y, y = xs[k] := ⟨_, rfl⟩
  rw [← hy] at hok hrg hkd
  have HOK : Hid (OeOk w1 y) := hok
  have hk0 : (0 : Int) ≤ (k : Int) := by omega
  have hkI : (k : Int) < (xs.length : Int) := by omega
  have hkw : IntKind.i64.wrap ((k : Int) + 1) = ((k + 1 : Nat) : Int) := by rw [IntKind.wrap_i64]; omega
  have hLD := rangeAt_below hrg HB.out
  obtain ⟨wa, hwa⟩ : ∃ wa, wa = wr.alloc (.cells y.c tOe) := ⟨_, rfl⟩
  have hba : Below wr.heap.size wr wa := by rw [hwa]; exact alw (Below.refl _ _) _
  have hbxa : wa.heap[wr.heap.size]? = some (.cells y.c tOe (0, 0)) := by rw [hwa]; exact heap_alloc_new wr _
  have hoc := oeCells hbxa
  have hHa : Exb wa (fun b => b < w1.heap.size ∨ b = wr.heap.size) p ms mn pw mw V q v s s := by rw [hwa]; exact HE.out.box _
  have HEa : Hid _ := hHa
  have HBa : Hid (Below w1.heap.size w1 wa) := below_next HB.out hba
  have HXa : Hid _ := hbxa
  have HWA : Hid (wa = _) := hwa
  have HSZa : Hid (w1.heap.size ≤ wr.heap.size ∧ wr.heap.size < wa.heap.size) := ⟨HB.out.size, (Array.getElem?_eq_some_iff.1 hbxa).1⟩
  rw [hwa] at hoc
  clear hy hok hrg hwa hba hbxa hHa
  have k1 : (y.kd == 1) = false := by simp [hkd]
  have k2 : (y.kd == 2) = false := by simp [hkd]
  have k3 : (y.kd == 3) = true := by simp [hkd]
  clear hkd
  go_upto_region 39 with (first
    | (refine wpList_load_g (by rfl) tOe _ rfl b (o + k * 15) (by rfl) y.c.toList _ hLD Tryz.underlying43 rfl infoOe ?_))
  rw [← HWA.out] at hoc ⊢
  clear hLD
  obtain ⟨C, hC⟩ : ∃ C, C = max s.clk (min y.now mxX) := ⟨_, rfl⟩
  have HON : Hid _ := bon_t HEa.out.b y.now
  rw [← hC] at HON
  have HC : Hid (C = max s.clk (min y.now mxX)) := hC
  clear hC
  go_wp2_with fail
  refine Calls.mono HON.out ?_
  rintro e9 w2 ⟨rfl, hR1, hst1⟩
  have hp2 := HEa.out.doc hR1 hst1
  have HE2 : Hid (Exb w2 (fun b => b < w1.heap.size ∨ b = wr.heap.size) p ms mn pw mw V q v s { s with clk := C }) := hp2.1
  have HB2 : Hid (Below w1.heap.size w1 w2) := chg_below HBa.out (hp2.2.mono (fun b hb hh => hb (.inl hh)))
  have HX2 : Hid (w2.heap[wr.heap.size]? = _) := (hp2.2.block wr.heap.size HSZa.out.2 (fun h9 => h9 (.inr rfl))).trans HXa.out
  obtain ⟨a, cp, hv, -, -, -, hrd⟩ := OwnG.val hR1.row
  have hl9 := hR1.inv.len
  have hcs : ∀ u, Below w2.heap.size w2 u → u.cell? ⟨q, 0, none⟩ = some v ∧ u.cell? ⟨q, 1, none⟩ = some (.int .u64 (C : Int)) := fun u hu => ⟨(hR1.below hu).cell 0, (hR1.below hu).cell 1⟩
  have hfz : ∀ u, Below w2.heap.size w2 u → u.frozen? ⟨q, 0, none⟩ = false := fun u hu => (hR1.below hu).frz 0
  obtain ⟨n, hn⟩ : ∃ n, n = s.L.length := ⟨_, rfl⟩
  have hv' : v = .slice a n cp := by rw [hn]; exact hv
  have hl9 : n ≤ 64 := by rw [hn]; exact hl9
  rw [hv'] at hcs
  have HV : Hid (v = .slice a n cp) := hv'
  have HRR : Hid (RdG KBs w2 a s.L) := hrd
  have HNN : Hid (n = s.L.length) := hn
  have HR1 : Hid (Bk w2 q v { s with clk := C }) := hR1
  clear hR1 hst1 hn hv hrd hv' hp2 hoc
  go_wp2
  go_loopw [30, 31, 32] (fun u z j wv => ∃ kk : Nat, kk ≤ n ∧ j = .int .i64 (kk : Int) ∧ OwnG KKy wv w2.heap.size u (((s.L.take kk).filter (fun x => decide (x.ov ≤ C))).map Xe.k) ∧ OwnG KBs wv w2.heap.size z ((s.L.take kk).filter (fun x => decide (C < x.ov))) ∧ Below w2.heap.size w2 wv) (fun _ _ j _ => n - (intOf j).toNat)
  case atStart => exact ⟨0, Nat.zero_le _, rfl, World.ownsRow_nil _ _ _ _, World.ownsRow_nil _ _ _ _, Below.refl _ _⟩
  case round =>
    rename World => wv
    obtain ⟨kk, hkn, rfl, hown, hown6, hbw⟩ := hrel
    have hkw2 : IntKind.i64.wrap ((kk : Int) + 1) = ((kk + 1 : Nat) : Int) := by rw [IntKind.wrap_i64]; omega
    have hcr := hcs wv hbw
    by_cases hltk : kk < n
    · have hlti : (kk : Int) < (n : Int) := by omega
      have hk0 : (0 : Int) ≤ (kk : Int) := by omega
      have hk1 : kk < s.L.length := by rw [← HNN.out]; exact hltk
      obtain ⟨b, o, rfl, r1, -⟩ := RdG.below HRR.out hbw kk hk1
      obtain ⟨x, hx⟩ : ∃ x : Xe, x = s.L[kk] := ⟨_, rfl⟩
      have g0 := r1 0 (.int .u64 (x.n : Int)) (by rw [hx]; rfl)
      rw [Nat.add_zero] at g0
      have g1 := r1 1 (.int .i64 x.k.1) (by rw [hx]; rfl)
      have g2 : wv.cell? ⟨b, o + kk * 4 + 1 + 1, none⟩ = some (.int .u64 (x.k.2 : Int)) := r1 2 (.int .u64 (x.k.2 : Int)) (by rw [hx]; rfl)
      have g2' : wv.cell? ⟨b, o + kk * 4 + 2, none⟩ = some (.int .u64 (x.k.2 : Int)) := r1 2 (.int .u64 (x.k.2 : Int)) (by rw [hx]; rfl)
      have g3 := r1 3 (.int .u64 (x.ov : Int)) (by rw [hx]; rfl)
      have hc : ∀ u, Below wv.heap.size wv u → u.cell? ⟨b, o + kk * 4, none⟩ = some (.int .u64 (x.n : Int)) ∧ u.cell? ⟨b, o + kk * 4 + 1, none⟩ = some (.int .i64 x.k.1) ∧ u.cell? ⟨b, o + kk * 4 + 1 + 1, none⟩ = some (.int .u64 (x.k.2 : Int)) ∧ u.cell? ⟨b, o + kk * 4 + 2, none⟩ = some (.int .u64 (x.k.2 : Int)) ∧ u.cell? ⟨b, o + kk * 4 + 3, none⟩ = some (.int .u64 (x.ov : Int)) ∧ u.cell? ⟨q, 0, none⟩ = some (.slice (some ⟨b, o, none⟩) n cp) ∧ u.cell? ⟨q, 1, none⟩ = some (.int .u64 (C : Int)) := fun u hu => ⟨(hu.cell (World.block_lt_of_cell? _ _ g0)).trans g0, (hu.cell (World.block_lt_of_cell? _ _ g1)).trans g1, (hu.cell (World.block_lt_of_cell? _ _ g2)).trans g2, (hu.cell (World.block_lt_of_cell? _ _ g2)).trans g2', (hu.cell (World.block_lt_of_cell? _ _ g3)).trans g3, (hcs u (below_next hbw hu)).1, (hcs u (below_next hbw hu)).2⟩
      have hT : s.L.take (kk + 1) = s.L.take kk ++ [x] := by rw [List.take_succ_eq_append_getElem hk1, ← hx]
      have HSZ : Hid (w2.heap.size ≤ wv.heap.size) := hbw.size
      have hd9 := (hc wv.drew (Below.refl _ _).drew)
      have HLF : Hid (((s.L.take kk).filter (fun x => decide (x.ov ≤ C))).length ≤ 64 ∧ ((s.L.take kk).filter (fun x => decide (C < x.ov))).length ≤ 64) := by
        have h1 := List.length_filter_le (fun x => decide (x.ov ≤ C)) (s.L.take kk)
        have h2 := List.length_filter_le (fun x => decide (C < x.ov)) (s.L.take kk)
        rw [List.length_take] at h1 h2
        exact ⟨by omega, by omega⟩
      by_cases hdue : x.ov ≤ C
      · have hdi : (x.ov : Int) ≤ (C : Int) := by omega
        have HT5 : Hid (((s.L.take kk).filter (fun x => decide (x.ov ≤ C))).map Xe.k ++ [x.k] = ((s.L.take (kk + 1)).filter (fun x => decide (x.ov ≤ C))).map Xe.k) := by unfold Hid; rw [hT, List.filter_append, List.map_append]; simp [hdue]
        have HT6 : Hid ((s.L.take (kk + 1)).filter (fun x => decide (C < x.ov)) = (s.L.take kk).filter (fun x => decide (C < x.ov))) := by unfold Hid; rw [hT, List.filter_append]; simp; omega
        have HO : Hid (OwnG KKy ((wv.alloc (.cells #[.int .i64 x.k.1, .int .u64 (x.k.2 : Int)] tFk)).drew) w2.heap.size u30 (((s.L.take kk).filter (fun x => decide (x.ov ≤ C))).map Xe.k)) := hown.below (alw (Below.refl _ _) _).drew
        have HO6 : Hid _ := hown6
        have HKR : Hid _ := kybs hown hown6
        have HL5 : Hid (∀ b, u30.ownBlock = some b → w2.heap.size ≤ b) := fun b hb => (hown.lt' hb).1
        have HL6 : Hid (∀ b, u31.ownBlock = some b → b < wv.heap.size) := fun b hb => (hown6.lt' hb).2
        have HBW : Hid _ := hbw
        obtain ⟨m5, hm5⟩ : ∃ m5, m5 = (((s.L.take kk).filter (fun x => decide (x.ov ≤ C))).map Xe.k).length := ⟨_, rfl⟩
        have hm64 : m5 ≤ 64 := by rw [hm5, List.length_map]; exact HLF.out.1
        have HM5 : Hid _ := hm5
        clear r1 g0 g1 g2 g2' g3 hx hk1 hT hown hown6 hbw hcs hdue hm5
        go_wp2_with fail
        refine wp_region_noPanic ?_
        refine wp_region_held_drew (S := (fun u => Below wv.heap.size wv u)) (by kernel_rfl) (by first | exact (Below.refl _ _).drew | assumption) (fun hHeld => ?_)
        refine tz (i := 0) 267 rfl rfl hHeld ?_
        simp only [pS]
        refine tz (i := 1) 268 rfl rfl hHeld ?_
        simp only [pS]
        refine tz (i := 2) 269 rfl rfl hHeld ?_
        simp only [pS]
        refine tz (i := 3) 270 rfl rfl hHeld ?_
        simp only [pS]
        refine tz (i := 4) 271 rfl rfl hHeld ?_
        simp only [pS]
        refine tz (i := 5) 272 rfl rfl hHeld ?_
        simp only [pS]
        refine tz (i := 6) 273 rfl rfl hHeld ?_
        simp only [pS]
        refine tz (i := 7) 274 rfl rfl hHeld ?_
        simp only [pS]
        refine tz (i := 8) 275 rfl rfl hHeld ?_
        simp only [pS]
        refine tz (i := 9) 276 rfl rfl hHeld ?_
        simp only [pS]
        refine tz (i := 10) 277 rfl rfl hHeld ?_
        simp only [pS]
        refine tz (i := 11) 278 rfl rfl hHeld ?_
        simp only [pS]
        refine tz (i := 12) 279 rfl rfl hHeld ?_
        simp only [pS]
        refine wpAnyH_done (by kernel_rfl) ?_ _
        refine NoPanic.normal ?_
        clear hc hHeld
        go_wp2_with (at_builtin; refine wp_appG1 (K := KKy) rfl _ _ rfl w2.heap.size u30 (((s.L.take kk).filter (fun x => decide (x.ov ≤ C))).map Xe.k) x.k m5 HM5.out ⟨wv.heap.size, 0, none⟩ 1 rfl HO.out rfl (rdF_new wv x.k _ rfl) (by show (m5 + 1) * 16 ≤ _; omega) (by simp only [maxLen]; omega) (by have := HSZ.out; simp; omega) ?_; intro g7 c7 w7 hown7 hg7 hlie7; rw [HT5.out] at hown7; have HO7 : Hid _ := hown7; have HG7 : Hid _ := hg7; clear hown7 hg7 hlie7)
        go_roundw
        case rel =>
          refine ⟨kk + 1, hltk, by go_num, HO7.out, ?_, (alw HBW.out _).drew.grown HG7.out (by have := HSZ.out; simp; omega) (fun j hj => HL5.out j hj)⟩
          rw [HT6.out]
          refine OwnG.kept HO6.out (fun b hb => ?_)
          have hlt6 := HL6.out b hb
          refine (HG7.out.block b (by simp; omega) (fun e => HKR.out b e.symm hb)).trans ?_
          exact (alw (Below.refl wv.heap.size wv) _).drew.block b hlt6
        case measure => simp [intOf]; omega
      · have hdi : ¬ (x.ov : Int) ≤ (C : Int) := by omega
        have hdl : C < x.ov := by omega
        have HT6 : Hid ((s.L.take kk).filter (fun x => decide (C < x.ov)) ++ [x] = (s.L.take (kk + 1)).filter (fun x => decide (C < x.ov))) := by unfold Hid; rw [hT, List.filter_append]; simp [hdl]
        have HT5 : Hid (((s.L.take (kk + 1)).filter (fun x => decide (x.ov ≤ C))).map Xe.k = ((s.L.take kk).filter (fun x => decide (x.ov ≤ C))).map Xe.k) := by unfold Hid; rw [hT, List.filter_append]; simp [hdue]
        have HO : Hid (OwnG KBs ((wv.alloc (.cells #[.int .u64 (x.n : Int), .int .i64 x.k.1, .int .u64 (x.k.2 : Int), .int .u64 (x.ov : Int)] tBs)).drew) w2.heap.size u31 ((s.L.take kk).filter (fun x => decide (C < x.ov)))) := hown6.below (alw (Below.refl _ _) _).drew
        have HO5 : Hid _ := hown
        have HKR : Hid _ := kybs hown hown6
        have HL6 : Hid (∀ b, u31.ownBlock = some b → w2.heap.size ≤ b) := fun b hb => (hown6.lt' hb).1
        have HL5 : Hid (∀ b, u30.ownBlock = some b → b < wv.heap.size) := fun b hb => (hown.lt' hb).2
        have HBW : Hid _ := hbw
        obtain ⟨m6, hm6⟩ : ∃ m6, m6 = ((s.L.take kk).filter (fun x => decide (C < x.ov))).length := ⟨_, rfl⟩
        have hm64 : m6 ≤ 64 := by rw [hm6]; exact HLF.out.2
        have HM6 : Hid _ := hm6
        clear r1 g0 g1 g2 g2' g3 hx hk1 hT hown hown6 hbw hcs hdue hdl hm6
        go_wp2_with fail
        refine wp_region_noPanic ?_
        refine wp_region_held_drew (S := (fun u => Below wv.heap.size wv u)) (by kernel_rfl) (by first | exact (Below.refl _ _).drew | assumption) (fun hHeld => ?_)
        refine tz (i := 0) 267 rfl rfl hHeld ?_
        simp only [pS]
        refine tz (i := 1) 268 rfl rfl hHeld ?_
        simp only [pS]
        refine tz (i := 2) 269 rfl rfl hHeld ?_
        simp only [pS]
        refine tz (i := 3) 270 rfl rfl hHeld ?_
        simp only [pS]
        refine tz (i := 4) 271 rfl rfl hHeld ?_
        simp only [pS]
        refine tz (i := 5) 272 rfl rfl hHeld ?_
        simp only [pS]
        refine tz (i := 6) 273 rfl rfl hHeld ?_
        simp only [pS]
        refine tz (i := 7) 274 rfl rfl hHeld ?_
        simp only [pS]
        refine tz (i := 8) 275 rfl rfl hHeld ?_
        simp only [pS]
        refine tz (i := 9) 276 rfl rfl hHeld ?_
        simp only [pS]
        refine tz (i := 10) 277 rfl rfl hHeld ?_
        simp only [pS]
        refine tz (i := 11) 278 rfl rfl hHeld ?_
        simp only [pS]
        refine tz (i := 12) 279 rfl rfl hHeld ?_
        simp only [pS]
        refine wpAnyH_done (by kernel_rfl) ?_ _
        refine NoPanic.normal ?_
        clear hc hHeld
        go_wp2_with (at_builtin; refine wp_appG1 (K := KBs) rfl _ _ rfl w2.heap.size u31 ((s.L.take kk).filter (fun x => decide (C < x.ov))) x m6 HM6.out ⟨wv.heap.size, 0, none⟩ 1 rfl HO.out rfl (rdB_new wv x _ rfl) (by show (m6 + 1) * 32 ≤ _; omega) (by simp only [maxLen]; omega) (by have := HSZ.out; simp; omega) ?_; intro g7 c7 w7 hown7 hg7 hlie7; rw [HT6.out] at hown7; have HO7 : Hid _ := hown7; have HG7 : Hid _ := hg7; clear hown7 hg7 hlie7)
        go_roundw
        case rel =>
          refine ⟨kk + 1, hltk, by go_num, ?_, HO7.out, (alw HBW.out _).drew.grown HG7.out (by have := HSZ.out; simp; omega) (fun j hj => HL6.out j hj)⟩
          rw [HT5.out]
          refine OwnG.kept HO5.out (fun b hb => ?_)
          have hlt5 := HL5.out b hb
          refine (HG7.out.block b (by simp; omega) (fun e => HKR.out b hb e.symm)).trans ?_
          exact (alw (Below.refl wv.heap.size wv) _).drew.block b hlt5
        case measure => simp [intOf]; omega
    · have hlti : ¬ (kk : Int) < (n : Int) := by omega
      have htk : s.L.take kk = s.L := List.take_of_length_le (by rw [← HNN.out]; omega)
      rw [htk] at hown hown6
      have hfr := hfz wv hbw
      have HO5 : Hid _ := hown
      have HO6 : Hid _ := hown6
      have HBW : Hid _ := hbw
      obtain ⟨a6, c6, hv6, -⟩ := hown6.val
      obtain ⟨m6, hm6⟩ : ∃ m6, m6 = (s.L.filter (fun x => decide (C < x.ov))).length := ⟨_, rfl⟩
      rw [← hm6] at hv6
      subst hv6
      obtain ⟨D, hD⟩ : ∃ D, D = (dueX { s with clk := C }).map Xe.k := ⟨_, rfl⟩
      obtain ⟨nd, hnd⟩ : ∃ nd, nd = D.length := ⟨_, rfl⟩
      have hnd64 : nd ≤ 64 := by
        rw [hnd, hD, List.length_map]
        exact Nat.le_trans (List.length_filter_le _ _) HR1.out.inv.len
      have hown5 : OwnG KKy wv w2.heap.size u30 D := by rw [hD]; exact hown
      obtain ⟨ab, cb, hvb, -⟩ := hown5.val
      rw [← hnd] at hvb
      subst hvb
      obtain ⟨w4, hw4⟩ : ∃ w4, w4 = wv.setCell ⟨q, 0, none⟩ (.slice a6 m6 c6) := ⟨_, rfl⟩
      obtain ⟨h8, h9⟩ := HR1.out.setRow (Chg.of_below hbw) (v' := .slice a6 m6 c6) (L' := s.L.filter (fun x => decide (C < x.ov))) (OwnG.base hown6 (Nat.zero_le _)) (fun b e => .inr (OwnG.lt' hown6 e).1) (HR1.out.inv.drop _)
      rw [← hw4] at h8 h9
      have hp4 := HE2.out.doc h8 h9
      have hq2 := HR1.out.ql
      have hO4 : OwnG KKy w4 w2.heap.size (.slice ab nd cb) D := OwnG.kept hown5 (fun b hb => by
        rw [hw4]
        exact heap_setCell_other wv ⟨q, 0, none⟩ b _ (fun e => by have h0 : b = q := e; have := (OwnG.lt' hown5 hb).1; omega))
      have HE4 : Hid (Exb w4 (fun b => (b < w1.heap.size ∨ b = wr.heap.size) ∨ (Value.slice ab nd cb).ownBlock = some b) p ms mn pw mw V q (.slice a6 m6 c6) s { s with clk := C, L := s.L.filter (fun x => decide (C < x.ov)) }) := hp4.1.mores (fun b hb => ⟨(OwnG.lt' hO4 hb).2, fun hf => by have h1 := HE2.out.a.lt hf; have h2 := (OwnG.lt' hO4 hb).1; omega, fun hf => by
        rcases hf with hf | hf
        · have h2 := (OwnG.lt' hO4 hb).1; omega
        · exact kybs hown5 hown6 b hb hf⟩)
      have HB4 : Hid (Below w1.heap.size w1 w4) := chg_below HB2.out (hp4.2.mono (fun b hb hh => hb (.inl hh)))
      have hx4 := (hp4.2.block wr.heap.size (Array.getElem?_eq_some_iff.1 HX2.out).1 (fun h9 => h9 (.inr rfl))).trans HX2.out
      have hoc4 := oeCells hx4
      have hocv := oeCells ((hbw.block _ (Array.getElem?_eq_some_iff.1 HX2.out).1).trans HX2.out)
      have HX4 : Hid _ := hx4
      have HW4 : Hid (w4 = _) := hw4
      have HO4 : Hid _ := hO4
      have HD : Hid (D = _) := hD
      have HND : Hid (nd = D.length) := hnd
      rw [hw4] at hoc4
      have HTK : Hid _ := xtick_t hp4.1.a hp4.1.tz y.now
      rw [← HC.out, ← hD] at HTK
      clear hown hown6 hown5 hbw htk hcs hfz hm6 hD hnd hw4 h8 h9 hp4 hq2 hO4 hx4
      go_wp2_with fail
      rw [← HW4.out] at hoc4 ⊢
      clear hoc4 hocv hfr
      refine Calls.mono HTK.out ?_
      rintro e9 w5 ⟨va, V5, rfl, howna, hst5, hstp5, -⟩
      obtain ⟨aa, ca, hva, -⟩ := howna.val
      rw [← HND.out] at hva
      subst hva
      have hp5 := HE4.out.prog hst5 hstp5
      have hx5 := (hp5.2.block wr.heap.size (Array.getElem?_eq_some_iff.1 HX4.out).1 (fun h9 => h9 (.inl (.inr rfl)))).trans HX4.out
      have HO5b : Hid (OwnG KKy w5 w2.heap.size (.slice ab nd cb) D) := OwnG.kept HO4.out (fun b hb => hp5.2.block b (OwnG.lt' HO4.out hb).2 (fun h9 => h9 (.inr hb)))
      have HOA : Hid (OwnG KKy w5 w4.heap.size (.slice aa nd ca) D) := howna
      have HE5 : Hid _ := hp5.1
      have HB5y : Hid (Below w1.heap.size w1 w5) := chg_below HB4.out (hp5.2.mono (fun b hb hh => hb (.inl (.inl hh))))
      have HX5 : Hid _ := hx5
      clear howna hst5 hstp5 hp5 hx5
      go_wp2_with fail
      refine Calls.mono (sameKeys_t aa ab nd ca cb D HND.out (by omega) (by obtain ⟨a9, c9, h91, -, -, -, h92⟩ := OwnG.val HOA.out; cases h91; exact h92) (by obtain ⟨a9, c9, h91, -, -, -, h92⟩ := OwnG.val HO5b.out; cases h91; exact h92)) ?_
      rintro e9 w6 ⟨rfl, hb6⟩
      have HE6 : Hid _ := HE5.out.below hb6
      have hx6 := (hb6.block _ (Array.getElem?_eq_some_iff.1 HX5.out).1).trans HX5.out
      have hoc6 := oeCells hx6
      have HX6 : Hid _ := hx6
      have HB6 : Hid (Below w1.heap.size w1 w6) := below_next HB5y.out hb6
      have HT2 : Hid _ := xtick_t HE6.out.a HE6.out.tz y.now
      have htw := tick_twice s y.now
      rw [← HC.out] at htw
      rw [htw.1, htw.2] at HT2
      clear hb6 hx6 htw
      go_wp2_with fail
      clear hoc6
      refine Calls.mono HT2.out ?_
      rintro e9 w7 ⟨vz, V7, rfl, hownz, hst7, hstp7, -⟩
      obtain ⟨az, cz, hvz, -⟩ := hownz.val
      rw [List.map_nil, List.length_nil] at hvz
      subst hvz
      have hp7 := HE6.out.prog hst7 hstp7
      have h77 := hp7.1
      have hi7 := h77.a.inv
      have HE7 : Hid (Exb w7 (fun b => b < w1.heap.size ∨ b = wr.heap.size) p ms mn pw mw V7 q (.slice a6 m6 c6) (tickX { s with clk := C }) (tickX { s with clk := C })) := ⟨h77.a, h77.b.of_eq (t := tickX { s with clk := C }) rfl rfl rfl rfl rfl hi7, h77.ap, fun b hb => h77.av b (.inl hb), h77.tz, .inl hlt0⟩
      have HB7z : Hid (Below w1.heap.size w1 w7) := chg_below HB6.out (hp7.2.mono (fun b hb hh => hb (.inl (.inl hh))))
      clear hownz hst7 hstp7 hp7 h77 hi7
      go_upto_region 58 with (fail)
      obtain ⟨s9, hs9⟩ : ∃ s9 : Xs, s9 = tickX { s with clk := C } := ⟨_, rfl⟩
      have HSB9 : Hid (s9.beg ≤ k + 1) := by unfold Hid; rw [hs9]; exact Nat.le_trans HSB.out (Nat.le_succ _)
      have HSC9 : Hid (s9.mtu = M ∧ s9.ack = A ∧ s9.ep = EP) := by unfold Hid; rw [hs9]; exact HSC.out
      rw [← hs9] at HE7
      clear hs9
      obtain ⟨n9, hn9⟩ : ∃ n9, n9 = (s9).L.length := ⟨_, rfl⟩
      have hn64 : n9 ≤ 64 := by rw [hn9]; exact HE7.out.a.inv.len
      obtain ⟨a9, cp9, hv9, -, -, -, hrd9⟩ := OwnG.val HE7.out.b.row
      have hv9' : (Value.slice a6 m6 c6) = .slice a9 n9 cp9 := by rw [hn9]; exact hv9
      have hcs9 : ∀ u, Below w7.heap.size w7 u → u.cell? ⟨q, 0, none⟩ = some (.slice a9 n9 cp9) := fun u hu => by rw [← hv9']; exact (HE7.out.b.below hu).cell 0
      have hc9a := hcs9 w7 (Below.refl _ _)
      have HN9 : Hid _ := hn9
      have HR9 : Hid (RdG KBs w7 a9 (s9).L) := hrd9
      clear hn9 hv9 hv9' hrd9
      go_wp2
      go_loopw [37, 38] (fun u j wv => ∃ i : Nat, i ≤ n9 ∧ j = .int .i64 (i : Int) ∧ OwnG KKy wv w7.heap.size u (((s9).L.take i).map Xe.k) ∧ Below w7.heap.size w7 wv) (fun _ j _ => n9 - (intOf j).toNat)
      case atStart => exact ⟨0, Nat.zero_le _, rfl, World.ownsRow_nil _ _ _ _, Below.refl _ _⟩
      case round =>
        rename World => wv
        obtain ⟨i, hin, rfl, hown, hbv⟩ := hrel
        have hiw : IntKind.i64.wrap ((i : Int) + 1) = ((i + 1 : Nat) : Int) := by rw [IntKind.wrap_i64]; omega
        have hc9 := hcs9 wv hbv
        by_cases hlt9 : i < n9
        · have hlti : (i : Int) < (n9 : Int) := by omega
          have hi0 : (0 : Int) ≤ (i : Int) := by omega
          have hi1 : i < (s9).L.length := by rw [← HN9.out]; exact hlt9
          obtain ⟨b9, o9, rfl, r1, -⟩ := RdG.below HR9.out hbv i hi1
          obtain ⟨x, hx⟩ : ∃ x : Xe, x = (s9).L[i] := ⟨_, rfl⟩
          have g1 := r1 1 (.int .i64 x.k.1) (by rw [hx]; rfl)
          have g2 : wv.cell? ⟨b9, o9 + i * 4 + 1 + 1, none⟩ = some (.int .u64 (x.k.2 : Int)) := r1 2 (.int .u64 (x.k.2 : Int)) (by rw [hx]; rfl)
          have HT : Hid (((s9).L.take i).map Xe.k ++ [x.k] = ((s9).L.take (i + 1)).map Xe.k) := by unfold Hid; rw [List.take_succ_eq_append_getElem hi1, ← hx]; simp
          have HSZ : Hid (w7.heap.size ≤ wv.heap.size) := hbv.size
          have HO : Hid (OwnG KKy (wv.alloc (.cells #[.int .i64 x.k.1, .int .u64 (x.k.2 : Int)] tFk)) w7.heap.size u37 (((s9).L.take i).map Xe.k)) := hown.below (alw (Below.refl _ _) _)
          have HL9 : Hid (∀ b, u37.ownBlock = some b → w7.heap.size ≤ b) := fun b hb => (hown.lt' hb).1
          obtain ⟨m9, hm9⟩ : ∃ m9, m9 = (((s9).L.take i).map Xe.k).length := ⟨_, rfl⟩
          have hm64 : m9 ≤ 64 := by rw [hm9, List.length_map, List.length_take]; omega
          have HM9 : Hid _ := hm9
          have HBV : Hid _ := hbv
          clear r1 hx hi1 hown hbv hm9 hcs9
          go_wp2_with (at_builtin; refine wp_appG1 (K := KKy) rfl _ _ rfl w7.heap.size u37 (((s9).L.take i).map Xe.k) x.k m9 HM9.out ⟨wv.heap.size, 0, none⟩ 1 rfl HO.out rfl (rdF_new wv x.k _ rfl) (by show (m9 + 1) * 16 ≤ _; omega) (by simp only [maxLen]; omega) (by have := HSZ.out; simp; omega) ?_; intro g7 c7 w7 hown7 hg7 hlie7; rw [HT.out] at hown7; have HO7 : Hid _ := hown7; have HG7 : Hid _ := hg7; clear hown7 hg7 hlie7)
          go_roundw
          case rel => exact ⟨i + 1, hlt9, by go_num, HO7.out, (alw HBV.out _).grown HG7.out (by have := HSZ.out; simp; omega) (fun j hj => HL9.out j hj)⟩
          case measure => simp [intOf]; omega
        · have hlti : ¬ (i : Int) < (n9 : Int) := by omega
          have htk : (s9).L.take i = (s9).L := List.take_of_length_le (by rw [← HN9.out]; omega)
          rw [htk] at hown
          have HEv : Hid _ := HE7.out.below hbv
          have HOV : Hid _ := hown
          obtain ⟨n8, hn8⟩ : ∃ n8, n8 = ((s9).L.map Xe.k).length := ⟨_, rfl⟩
          have hn864 : n8 ≤ 64 := by rw [hn8, List.length_map, ← HN9.out]; exact hn64
          obtain ⟨ab, cb, hvb, -, -, -, hrb⟩ := hown.val
          rw [← hn8] at hvb
          subst hvb
          have HN8 : Hid _ := hn8
          have HRB : Hid (RdG KKy wv ab ((s9).L.map Xe.k)) := hrb
          have HBV : Hid _ := hbv
          clear htk hown hbv hcs9 hn8 hrb
          go_wp2_with (first
            | (go_at_call 18; refine Calls.mono (xbusy_t HEv.out.a) ?_; rintro e9 w5 ⟨va, rfl, howna, hb5⟩; obtain ⟨aa, ca, hva, -, -, -, hra⟩ := howna.val; rw [← HN8.out] at hva; subst hva; have HRA : Hid (RdG KKy w5 aa ((s9).L.map Xe.k)) := hra; have HB5 : Hid _ := hb5; clear howna hb5 hra)
            | (go_at_call 15; refine Calls.mono (sameKeys_t aa ab n8 ca cb ((s9).L.map Xe.k) HN8.out (by omega) HRA.out (RdG.below HRB.out HB5.out)) ?_; rintro e9 w7 ⟨rfl, hb7⟩; have HB7 : Hid _ := hb7; clear hb7))
          refine ⟨?_, ?_⟩
          · unfold WIx
            iterate 365 (apply Exists.intro)
            have h9 := HEv.out.below (below_next HB5.out HB7.out)
            exact ⟨⟨k + 1, V7, (Value.slice a6 m6 c6), s9, by omega, by go_num, HSB9.out, HSC9.out, h9.less (fun b hb => .inl hb) (Nat.lt_of_lt_of_le (Nat.lt_of_le_of_lt (Nat.zero_le _) hlt0) (Nat.le_refl _)), HB7z.out.trans ((below_next HBV.out (below_next HB5.out HB7.out)).mono HB7z.out.size)⟩, rfl⟩
          · simp [Wmux, intOf]; omega
end Go.Proofs.YtiedgcanndgmoaaGreatDoor
namespace Go.Proofs.YtiedgcanndgmoaaGreatDoor
set_option linter.unusedVariables false
set_option linter.unusedSimpArgs false
open Go.RowKit Go.Maps
set_option maxRecDepth 100000 in
set_option maxHeartbeats 12800000 in
theorem ocase1n0 (w1 : World) (ao : Option Addr) (cap : Nat) (xs : List Oe) (P0 p ms mn pw mw q M A EP : Nat) (hM : 16 ≤ M ∧ M ≤ 1024) (hAk : A ≤ 4096) (hEP : 1 ≤ EP ∧ EP ≤ 281474976710655) (hl : xs.length ≤ 4398046511103) (HR : Hid (RdOe w1 ao xs)) (HC : Hid (w1.heap[P0]? = some (.cells #[.int .i64 (M : Int), .int .u64 (A : Int), .int .u64 1, .int .i64 0, .int .i64 1, .int .i64 1] 25 (0, 0))))
    (u0 u1 u3 u10 u13 u16 u17 u18 u19 u20 u21 u22 u23 u24 u25 u26 u27 u28 u29 u30 u31 u32 u33 u34 u35 u36 u37 u38 u39 u40 u41 u42 u43 u44 u45 u46 u47 u48 u49 u50 u51 u52 u53 u54 u55 u56 u57 u58 u59 u60 u61 u62 u63 u64 u65 u66 u67 u68 u69 u70 u71 u72 u73 u74 u75 u76 u77 u78 u79 u80 u81 u82 u83 u84 u85 u86 u87 u88 u89 u90 u91 u92 u93 u94 u95 u96 u97 u98 u99 u100 u101 u102 u103 u104 u105 u106 u107 u108 u109 u110 u111 u112 u113 u114 u115 u116 u117 u118 u119 u120 u121 u122 u123 u124 u125 u126 u127 u128 u129 u130 u131 u132 u133 u134 u135 u136 u137 u138 u139 u140 u141 u142 u143 u144 u145 u146 u147 u148 u149 u150 u151 u152 u153 u154 u155 u156 u157 u158 u159 u160 u161 u162 u163 u164 u165 u166 u167 u168 u169 u170 u171 u172 u173 u174 u175 u176 u177 u178 u179 u180 u181 u182 u183 u184 u185 u186 u187 u188 u189 u190 u191 u192 u193 u194 u195 u196 u197 u198 u199 u200 u201 u202 u203 u204 u205 u206 u207 u208 u209 u210 u211 u212 u213 u214 u215 u216 u217 u218 u219 u220 u221 u222 u223 u224 u225 u226 u227 u228 u229 u230 u231 u232 u233 u234 u235 u236 u237 u238 u239 u240 u241 u242 u243 u244 u245 u246 u247 u248 u249 u250 u251 u252 u253 u254 u255 u256 u257 u258 u259 u260 u261 u262 u263 u264 u265 u266 u267 u268 u269 u270 u271 u272 u273 u274 u275 u276 u277 u278 u279 u280 u281 u282 u283 u284 u285 u286 u287 u288 u289 u290 u291 u292 u293 u294 u295 u296 u297 u298 u299 u300 u301 u302 u303 u304 u305 u306 u307 u308 u309 u310 u311 u312 u313 u314 u315 u316 u317 u318 u319 u320 u321 u322 u323 u324 u325 u326 u327 u328 u329 u330 u331 u332 u333 u334 u335 u336 u337 u338 u339 u340 u341 u342 u343 u344 u345 u346 u347 u348 u349 u350 u351 u352 u353 u354 u355 u356 u357 u358 u359 u360 u361 u362 u363 u364 u365 u366 u367 u368 u369 u370 u371 u372 u373 u374 : Value) (wr : World) (k : Nat) (V : Nat → Nat → Value) (v : Value) (s : Xs) (hk : k ≤ xs.length) (HSB : Hid (s.beg ≤ k)) (HSC : Hid (s.mtu = M ∧ s.ack = A ∧ s.ep = EP)) (HE : Hid (Exb wr (fun b => b < w1.heap.size) p ms mn pw mw V q v s s)) (HB : Hid (Below w1.heap.size w1 wr)) (hlt0 : 0 < w1.heap.size) (hlt : k < xs.length) (hkd : xs[k].kd = 1) (hn0 : xs[k].n = 0) (Q0 : Exit → Act → World → Prop) :
    Code.wp Tryz.prog (TBx Tryz.f3.body) (Exit.then (fun a' w'' => WIx w1 ao cap xs P0 p ms mn pw mw q M A EP a' w'' ∧ Wmux xs.length a' w'' < Wmux xs.length ⟨#[u0, u1, .int .u64 (EP : Int), u3, .slice ao xs.length cap, undef, undef, undef, undef, undef, u10, .pointer (some ⟨P0, 0, none⟩), .pointer (some ⟨p, 0, none⟩), u13, .pointer (some ⟨q, 0, none⟩), .int .i64 k, u16, u17, u18, u19, u20, u21, u22, u23, u24, u25, u26, u27, u28, u29, u30, u31, u32, u33, u34, u35, u36, u37, u38, u39, u40, u41, u42, u43, u44, u45, u46, u47, u48, u49, u50, u51, u52, u53, u54, u55, u56, u57, u58, u59, u60, u61, u62, u63, u64, u65, u66, u67, u68, u69, u70, u71, u72, u73, u74, u75, u76, u77, u78, u79, u80, u81, u82, u83, u84, u85, u86, u87, u88, u89, u90, u91, u92, u93, u94, u95, u96, u97, u98, u99, u100, u101, u102, u103, u104, u105, u106, u107, u108, u109, u110, u111, u112, u113, u114, u115, u116, u117, u118, u119, u120, u121, u122, u123, u124, u125, u126, u127, u128, u129, u130, u131, u132, u133, u134, u135, u136, u137, u138, u139, u140, u141, u142, u143, u144, u145, u146, u147, u148, u149, u150, u151, u152, u153, u154, u155, u156, u157, u158, u159, u160, u161, u162, u163, u164, u165, u166, u167, u168, u169, u170, u171, u172, u173, u174, u175, u176, u177, u178, u179, u180, u181, u182, u183, u184, u185, u186, u187, u188, u189, u190, u191, u192, u193, u194, u195, u196, u197, u198, u199, u200, u201, u202, u203, u204, u205, u206, u207, u208, u209, u210, u211, u212, u213, u214, u215, u216, u217, u218, u219, u220, u221, u222, u223, u224, u225, u226, u227, u228, u229, u230, u231, u232, u233, u234, u235, u236, u237, u238, u239, u240, u241, u242, u243, u244, u245, u246, u247, u248, u249, u250, u251, u252, u253, u254, u255, u256, u257, u258, u259, u260, u261, u262, u263, u264, u265, u266, u267, u268, u269, u270, u271, u272, u273, u274, u275, u276, u277, u278, u279, u280, u281, u282, u283, u284, u285, u286, u287, u288, u289, u290, u291, u292, u293, u294, u295, u296, u297, u298, u299, u300, u301, u302, u303, u304, u305, u306, u307, u308, u309, u310, u311, u312, u313, u314, u315, u316, u317, u318, u319, u320, u321, u322, u323, u324, u325, u326, u327, u328, u329, u330, u331, u332, u333, u334, u335, u336, u337, u338, u339, u340, u341, u342, u343, u344, u345, u346, u347, u348, u349, u350, u351, u352, u353, u354, u355, u356, u357, u358, u359, u360, u361, u362, u363, u364, u365, u366, u367, u368, u369, u370, u371, u372, u373, u374], []⟩ wr) Q0) ⟨#[u0, u1, .int .u64 (EP : Int), u3, .slice ao xs.length cap, undef, undef, undef, undef, undef, u10, .pointer (some ⟨P0, 0, none⟩), .pointer (some ⟨p, 0, none⟩), u13, .pointer (some ⟨q, 0, none⟩), .int .i64 k, u16, u17, u18, u19, u20, u21, u22, u23, u24, u25, u26, u27, u28, u29, u30, u31, u32, u33, u34, u35, u36, u37, u38, u39, u40, u41, u42, u43, u44, u45, u46, u47, u48, u49, u50, u51, u52, u53, u54, u55, u56, u57, u58, u59, u60, u61, u62, u63, u64, u65, u66, u67, u68, u69, u70, u71, u72, u73, u74, u75, u76, u77, u78, u79, u80, u81, u82, u83, u84, u85, u86, u87, u88, u89, u90, u91, u92, u93, u94, u95, u96, u97, u98, u99, u100, u101, u102, u103, u104, u105, u106, u107, u108, u109, u110, u111, u112, u113, u114, u115, u116, u117, u118, u119, u120, u121, u122, u123, u124, u125, u126, u127, u128, u129, u130, u131, u132, u133, u134, u135, u136, u137, u138, u139, u140, u141, u142, u143, u144, u145, u146, u147, u148, u149, u150, u151, u152, u153, u154, u155, u156, u157, u158, u159, u160, u161, u162, u163, u164, u165, u166, u167, u168, u169, u170, u171, u172, u173, u174, u175, u176, u177, u178, u179, u180, u181, u182, u183, u184, u185, u186, u187, u188, u189, u190, u191, u192, u193, u194, u195, u196, u197, u198, u199, u200, u201, u202, u203, u204, u205, u206, u207, u208, u209, u210, u211, u212, u213, u214, u215, u216, u217, u218, u219, u220, u221, u222, u223, u224, u225, u226, u227, u228, u229, u230, u231, u232, u233, u234, u235, u236, u237, u238, u239, u240, u241, u242, u243, u244, u245, u246, u247, u248, u249, u250, u251, u252, u253, u254, u255, u256, u257, u258, u259, u260, u261, u262, u263, u264, u265, u266, u267, u268, u269, u270, u271, u272, u273, u274, u275, u276, u277, u278, u279, u280, u281, u282, u283, u284, u285, u286, u287, u288, u289, u290, u291, u292, u293, u294, u295, u296, u297, u298, u299, u300, u301, u302, u303, u304, u305, u306, u307, u308, u309, u310, u311, u312, u313, u314, u315, u316, u317, u318, u319, u320, u321, u322, u323, u324, u325, u326, u327, u328, u329, u330, u331, u332, u333, u334, u335, u336, u337, u338, u339, u340, u341, u342, u343, u344, u345, u346, u347, u348, u349, u350, u351, u352, u353, u354, u355, u356, u357, u358, u359, u360, u361, u362, u363, u364, u365, u366, u367, u368, u369, u370, u371, u372, u373, u374], []⟩ wr := by
  conv => arg 2; whnf
  obtain ⟨b, o, rfl, hok, hrg⟩ := HR.out k hlt
  obtain ⟨y, hy⟩ : ∃ y, y = xs[k] := ⟨_, rfl⟩
  rw [← hy] at hok hrg hkd hn0
  have HOK : Hid (OeOk w1 y) := hok
  have hk0 : (0 : Int) ≤ (k : Int) := by omega
  have hkI : (k : Int) < (xs.length : Int) := by omega
  have hkw : IntKind.i64.wrap ((k : Int) + 1) = ((k + 1 : Nat) : Int) := by rw [IntKind.wrap_i64]; omega
  have hLD := rangeAt_below hrg HB.out
  obtain ⟨wa, hwa⟩ : ∃ wa, wa = wr.alloc (.cells y.c tOe) := ⟨_, rfl⟩
  have hba : Below wr.heap.size wr wa := by rw [hwa]; exact alw (Below.refl _ _) _
  have hbxa : wa.heap[wr.heap.size]? = some (.cells y.c tOe (0, 0)) := by rw [hwa]; exact heap_alloc_new wr _
  have hoc := oeCells hbxa
  have hHa : Exb wa (fun b => b < w1.heap.size ∨ b = wr.heap.size) p ms mn pw mw V q v s s := by rw [hwa]; exact HE.out.box _
  have HEa : Hid _ := hHa
  have HBa : Hid (Below w1.heap.size w1 wa) := below_next HB.out hba
  have HXa : Hid _ := hbxa
  have HWA : Hid (wa = _) := hwa
  have HSZa : Hid (w1.heap.size ≤ wr.heap.size ∧ wr.heap.size < wa.heap.size) := ⟨HB.out.size, (Array.getElem?_eq_some_iff.1 hbxa).1⟩
  rw [hwa] at hoc
  clear hy hok hrg hwa hba hbxa hHa
  have k1 : (y.kd == 1) = true := by simp [hkd]
  clear hkd
  have hoca : ∀ u, Below wa.heap.size wa u → _ := fun u hu => oeCells ((hu.block _ HSZa.out.2).trans HXa.out)
  have zn0 : ¬ (0 : Int) < (y.n : Int) := by omega
  have HBG : Hid (∀ u, Below wa.heap.size wa u → ∀ (ao : Option Addr) (c : Nat), Calls Tryz.prog 8 #[.pointer (some ⟨p, 0, none⟩), .int .u64 (y.n : Int), fv y.k, .slice ao y.bn c, .int .u64 (y.now : Int)] u fun e w' => e = .returned (.tuple #[.slice none 0 0, .int .i64 1]) ∧ Below u.heap.size u w') := fun u hu ao c => by
    have h9 := HEa.out.a.below hu
    exact xbegin_num h9 y.n y.k ao y.bn c y.now (by omega)
  have H_hn0 : Hid _ := hn0
  clear hn0
  go_upto_region 14 with (first
    | (refine wpList_load_g (by rfl) tOe _ rfl b (o + k * 15) (by rfl) y.c.toList _ hLD Tryz.underlying43 rfl infoOe ?_))
  rw [← HWA.out] at hoc ⊢
  clear hLD
  refine wp_region_noPanic ?_
  refine wp_region_held_drew (S := (fun u => Below wa.heap.size wa u)) (by kernel_rfl) (by first | exact (Below.refl _ _).drew | exact HB3.out | exact HB4.out | assumption) (fun hHeld => ?_)
  refine tz (i := 0) 78 rfl rfl hHeld ?_
  simp only [pS]
  refine tz (i := 1) 79 rfl rfl hHeld ?_
  simp only [pS]
  refine tz (i := 2) 80 rfl rfl hHeld ?_
  simp only [pS]
  refine tz (i := 3) 81 rfl rfl hHeld ?_
  simp only [pS]
  refine tz (i := 4) 82 rfl rfl hHeld ?_
  simp only [pS]
  refine tz (i := 5) 83 rfl rfl hHeld ?_
  simp only [pS]
  refine tz (i := 6) 84 rfl rfl hHeld ?_
  simp only [pS]
  refine tz (i := 8) 86 rfl rfl hHeld ?_
  simp only [pS]
  refine tz (i := 9) 87 rfl rfl hHeld ?_
  simp only [pS]
  refine run_at (i := 7) rfl (by kernel_rfl) (by rfl) (fun K hK => ?_)
  simp only [List.getElem_toArray, List.getElem_cons_zero, List.getElem_cons_succ]
  first | (go_at_call 8; refine Calls.mono (HBG.out w3 HB3.out a3 c3) ?_; rintro e9 w4 ⟨rfl, hb4⟩; have HB4 : Hid (Below wa.heap.size wa w4) := below_next HB3.out hb4; clear hb4) | (refine wpo_appN _ _ rfl wa.heap.size (.slice none 0 0) [] y.xs y.ba y.bc rfl (World.ownsRow_nil _ _ _ _) (by rw [← HOK.out.bn]; rfl) (OeOk.below HOK.out HBa.out.drew).br HOK.out.bz (by have h7 := HOK.out.bl; have h8 := HOK.out.bb; have h9 := HOK.out.bn; simp only [List.length_nil]; omega) (by exact Nat.le_refl _) ?_; intro v3 w3 hown3 hg3; rw [List.nil_append] at hown3; obtain ⟨a3, c3, hv3, hlc3, -, -, hr3, -⟩ := hown3.val; rw [← HOK.out.bn] at hv3 hlc3; subst hv3; have HB3 : Hid (Below wa.heap.size wa w3) := (Below.refl _ _).drew.grown hg3 (Nat.le_refl _) (fun j hj => by cases hj); have HR3 : Hid (Rd w3 a3 y.xs) := hr3; have HLC : Hid (y.bn ≤ c3) := hlc3; clear hown3 hg3 hr3 hlc3)
  refine hK.out _ _ (by first | exact (Below.refl _ _).drew | exact HB3.out | exact HB4.out | assumption) ?_
  clear hK K
  intro hHeld2
  clear hHeld
  have hHeld := hHeld2
  clear hHeld2
  try simp only [pS]
  refine run_at (i := 10) rfl (by kernel_rfl) (by rfl) (fun K hK => ?_)
  simp only [List.getElem_toArray, List.getElem_cons_zero, List.getElem_cons_succ]
  go_simp
  first | (go_at_call 8; refine Calls.mono (HBG.out w3 HB3.out a3 c3) ?_; rintro e9 w4 ⟨rfl, hb4⟩; have HB4 : Hid (Below wa.heap.size wa w4) := below_next HB3.out hb4; clear hb4) | (refine wpo_appN _ _ rfl wa.heap.size (.slice none 0 0) [] y.xs y.ba y.bc rfl (World.ownsRow_nil _ _ _ _) (by rw [← HOK.out.bn]; rfl) (OeOk.below HOK.out HBa.out.drew).br HOK.out.bz (by have h7 := HOK.out.bl; have h8 := HOK.out.bb; have h9 := HOK.out.bn; simp only [List.length_nil]; omega) (by exact Nat.le_refl _) ?_; intro v3 w3 hown3 hg3; rw [List.nil_append] at hown3; obtain ⟨a3, c3, hv3, hlc3, -, -, hr3, -⟩ := hown3.val; rw [← HOK.out.bn] at hv3 hlc3; subst hv3; have HB3 : Hid (Below wa.heap.size wa w3) := (Below.refl _ _).drew.grown hg3 (Nat.le_refl _) (fun j hj => by cases hj); have HR3 : Hid (Rd w3 a3 y.xs) := hr3; have HLC : Hid (y.bn ≤ c3) := hlc3; clear hown3 hg3 hr3 hlc3)
  go_wp2_with fail
  refine hK.out _ _ (by first | exact (Below.refl _ _).drew | exact HB3.out | exact HB4.out | assumption) ?_
  clear hK K
  intro hHeld2
  clear hHeld
  have hHeld := hHeld2
  clear hHeld2
  try simp only [pS]
  refine tz (i := 11) 77 rfl rfl hHeld ?_
  simp only [pS]
  refine tz (i := 12) 89 rfl rfl hHeld ?_
  simp only [pS]
  refine tz (i := 13) 90 rfl rfl hHeld ?_
  simp only [pS]
  refine tz (i := 14) 17 rfl rfl hHeld ?_
  simp only [pS]
  refine tz (i := 15) 18 rfl rfl hHeld ?_
  simp only [pS]
  refine wpAnyH_done (by kernel_rfl) ?_ _
  refine NoPanic.normal ?_
  clear hHeld hoca
  have HE4 : Hid (Exb w4 (fun b => b < w1.heap.size ∨ b = wr.heap.size) p ms mn pw mw V q v s s) := HEa.out.below HB4.out
  have HX4 : Hid (w4.heap[wr.heap.size]? = _) := (HB4.out.block _ HSZa.out.2).trans HXa.out
  have HBw4 : Hid (Below w1.heap.size w1 w4) := below_next HBa.out HB4.out
  have hoc1 := oeCells HX4.out
  have HOF1 : Hid _ := bof_any HE4.out.b y.k
  go_wp2_with fail
  refine Calls.mono HOF1.out ?_
  rintro e9 wf1 ⟨⟨x1, bb1, rfl⟩, hbf1⟩
  obtain ⟨wg1, hwg1⟩ : ∃ u, u = wf1.alloc (.cells #[.int .u64 (x1.n : Int), .int .i64 x1.k.1, .int .u64 (x1.k.2 : Int), .int .u64 (x1.ov : Int)] tBs) := ⟨_, rfl⟩
  have hbg1 : Below w4.heap.size w4 wg1 := by rw [hwg1]; exact alw hbf1 _
  have HEg1 : Hid _ := HE4.out.below hbg1
  have HXg1 : Hid (wg1.heap[wr.heap.size]? = _) := (hbg1.block _ (Array.getElem?_eq_some_iff.1 HX4.out).1).trans HX4.out
  have HBg1 : Hid (Below w1.heap.size w1 wg1) := below_next HBw4.out hbg1
  have HBl1 : Hid _ := hbg1
  have HWg1 : Hid (wg1 = _) := hwg1
  clear hbf1 hbg1 hwg1 hoc1
  have hocg1 := oeCells HXg1.out
  rw [HWg1.out] at hocg1
  have HOF2 : Hid _ := bnum_any HEg1.out.b y.n
  go_wp2_with fail
  rw [← HWg1.out] at hocg1 ⊢
  clear hocg1
  refine Calls.mono HOF2.out ?_
  rintro e9 wf2 ⟨⟨x2, bb2, rfl⟩, hbf2⟩
  obtain ⟨wg2, hwg2⟩ : ∃ u, u = wf2.alloc (.cells #[.int .u64 (x2.n : Int), .int .i64 x2.k.1, .int .u64 (x2.k.2 : Int), .int .u64 (x2.ov : Int)] tBs) := ⟨_, rfl⟩
  have hbg2 : Below wg1.heap.size wg1 wg2 := by rw [hwg2]; exact alw hbf2 _
  have HEg2 : Hid _ := HEg1.out.below hbg2
  have HXg2 : Hid (wg2.heap[wr.heap.size]? = _) := (hbg2.block _ (Array.getElem?_eq_some_iff.1 HXg1.out).1).trans HXg1.out
  have HBg2 : Hid (Below w1.heap.size w1 wg2) := below_next HBg1.out hbg2
  have HBl2 : Hid _ := hbg2
  have HWg2 : Hid (wg2 = _) := hwg2
  clear hbf2 hbg2 hwg2
  have hocg2 := oeCells HXg2.out
  rw [HWg2.out] at hocg2
  go_upto_region 58 with (fail)
  rw [← HWg2.out] at hocg2 ⊢
  clear hocg2
  obtain ⟨n9, hn9⟩ : ∃ n9, n9 = (s).L.length := ⟨_, rfl⟩
  have hn64 : n9 ≤ 64 := by rw [hn9]; exact HEg2.out.a.inv.len
  obtain ⟨a9, cp9, hv9, -, -, -, hrd9⟩ := OwnG.val HEg2.out.b.row
  have hv9' : v = .slice a9 n9 cp9 := by rw [hn9]; exact hv9
  have hcs9 : ∀ u, Below wg2.heap.size wg2 u → u.cell? ⟨q, 0, none⟩ = some (.slice a9 n9 cp9) := fun u hu => by rw [← hv9']; exact (HEg2.out.b.below hu).cell 0
  have hc9a := hcs9 wg2 (Below.refl _ _)
  have HN9 : Hid _ := hn9
  have HR9 : Hid (RdG KBs wg2 a9 (s).L) := hrd9
  clear hn9 hv9 hv9' hrd9
  go_wp2
  go_loopw [37, 38] (fun u j wv => ∃ i : Nat, i ≤ n9 ∧ j = .int .i64 (i : Int) ∧ OwnG KKy wv wg2.heap.size u (((s).L.take i).map Xe.k) ∧ Below wg2.heap.size wg2 wv) (fun _ j _ => n9 - (intOf j).toNat)
  case atStart => exact ⟨0, Nat.zero_le _, rfl, World.ownsRow_nil _ _ _ _, Below.refl _ _⟩
  case round =>
    rename World => wv
    obtain ⟨i, hin, rfl, hown, hbv⟩ := hrel
    have hiw : IntKind.i64.wrap ((i : Int) + 1) = ((i + 1 : Nat) : Int) := by rw [IntKind.wrap_i64]; omega
    have hc9 := hcs9 wv hbv
    by_cases hlt9 : i < n9
    · have hlti : (i : Int) < (n9 : Int) := by omega
      have hi0 : (0 : Int) ≤ (i : Int) := by omega
      have hi1 : i < (s).L.length := by rw [← HN9.out]; exact hlt9
      obtain ⟨b9, o9, rfl, r1, -⟩ := RdG.below HR9.out hbv i hi1
      obtain ⟨x, hx⟩ : ∃ x : Xe, x = (s).L[i] := ⟨_, rfl⟩
      have g1 := r1 1 (.int .i64 x.k.1) (by rw [hx]; rfl)
      have g2 : wv.cell? ⟨b9, o9 + i * 4 + 1 + 1, none⟩ = some (.int .u64 (x.k.2 : Int)) := r1 2 (.int .u64 (x.k.2 : Int)) (by rw [hx]; rfl)
      have HT : Hid (((s).L.take i).map Xe.k ++ [x.k] = ((s).L.take (i + 1)).map Xe.k) := by unfold Hid; rw [List.take_succ_eq_append_getElem hi1, ← hx]; simp
      have HSZ : Hid (wg2.heap.size ≤ wv.heap.size) := hbv.size
      have HO : Hid (OwnG KKy (wv.alloc (.cells #[.int .i64 x.k.1, .int .u64 (x.k.2 : Int)] tFk)) wg2.heap.size u37 (((s).L.take i).map Xe.k)) := hown.below (alw (Below.refl _ _) _)
      have HL9 : Hid (∀ b, u37.ownBlock = some b → wg2.heap.size ≤ b) := fun b hb => (hown.lt' hb).1
      obtain ⟨m9, hm9⟩ : ∃ m9, m9 = (((s).L.take i).map Xe.k).length := ⟨_, rfl⟩
      have hm64 : m9 ≤ 64 := by rw [hm9, List.length_map, List.length_take]; omega
      have HM9 : Hid _ := hm9
      have HBV : Hid _ := hbv
      clear r1 hx hi1 hown hbv hm9 hcs9
      go_wp2_with (at_builtin; refine wp_appG1 (K := KKy) rfl _ _ rfl wg2.heap.size u37 (((s).L.take i).map Xe.k) x.k m9 HM9.out ⟨wv.heap.size, 0, none⟩ 1 rfl HO.out rfl (rdF_new wv x.k _ rfl) (by show (m9 + 1) * 16 ≤ _; omega) (by simp only [maxLen]; omega) (by have := HSZ.out; simp; omega) ?_; intro g7 c7 w7 hown7 hg7 hlie7; rw [HT.out] at hown7; have HO7 : Hid _ := hown7; have HG7 : Hid _ := hg7; clear hown7 hg7 hlie7)
      go_roundw
      case rel => exact ⟨i + 1, hlt9, by go_num, HO7.out, (alw HBV.out _).grown HG7.out (by have := HSZ.out; simp; omega) (fun j hj => HL9.out j hj)⟩
      case measure => simp [intOf]; omega
    · have hlti : ¬ (i : Int) < (n9 : Int) := by omega
      have htk : (s).L.take i = (s).L := List.take_of_length_le (by rw [← HN9.out]; omega)
      rw [htk] at hown
      have HEv : Hid _ := HEg2.out.below hbv
      have HOV : Hid _ := hown
      obtain ⟨n8, hn8⟩ : ∃ n8, n8 = ((s).L.map Xe.k).length := ⟨_, rfl⟩
      have hn864 : n8 ≤ 64 := by rw [hn8, List.length_map, ← HN9.out]; exact hn64
      obtain ⟨ab, cb, hvb, -, -, -, hrb⟩ := hown.val
      rw [← hn8] at hvb
      subst hvb
      have HN8 : Hid _ := hn8
      have HRB : Hid (RdG KKy wv ab ((s).L.map Xe.k)) := hrb
      have HBV : Hid _ := hbv
      clear htk hown hbv hcs9 hn8 hrb
      go_wp2_with (first
        | (go_at_call 18; refine Calls.mono (xbusy_t HEv.out.a) ?_; rintro e9 w5 ⟨va, rfl, howna, hb5⟩; obtain ⟨aa, ca, hva, -, -, -, hra⟩ := howna.val; rw [← HN8.out] at hva; subst hva; have HRA : Hid (RdG KKy w5 aa ((s).L.map Xe.k)) := hra; have HB5 : Hid _ := hb5; clear howna hb5 hra)
        | (go_at_call 15; refine Calls.mono (sameKeys_t aa ab n8 ca cb ((s).L.map Xe.k) HN8.out (by omega) HRA.out (RdG.below HRB.out HB5.out)) ?_; rintro e9 w7 ⟨rfl, hb7⟩; have HB7 : Hid _ := hb7; clear hb7))
      refine ⟨?_, ?_⟩
      · unfold WIx
        iterate 365 (apply Exists.intro)
        have h9 := HEv.out.below (below_next HB5.out HB7.out)
        exact ⟨⟨k + 1, V, v, s, by omega, by go_num, Nat.le_trans HSB.out (Nat.le_succ _), HSC.out, h9.less (fun b hb => .inl hb) (Nat.lt_of_lt_of_le (Nat.lt_of_le_of_lt (Nat.zero_le _) hlt0) (Nat.le_refl _)), HBg2.out.trans ((below_next HBV.out (below_next HB5.out HB7.out)).mono HBg2.out.size)⟩, rfl⟩
      · simp [Wmux, intOf]; omega
end Go.Proofs.YtiedgcanndgmoaaGreatDoor
