import Derived.Test.YtiedgcanndgmoaaGreatDoorOBf
import Derived.Test.YtiedgcanndgmoaaGreatDoorZL
import Derived.Test.YtiedgcanndgmoaaGreatDoorRL
import Derived.Deep.CutRange
namespace Go.Proofs.YtiedgcanndgmoaaGreatDoor
set_option linter.unusedVariables false
set_option linter.unusedSimpArgs false
open Go.RowKit Go.Maps
def firstLoopX : Code → Option Code
  | .loop c => some c
  | .seq a b => match firstLoopX a with
    | some c => some c
    | none => firstLoopX b
  | .block _ c => firstLoopX c
  | .scope c => firstLoopX c
  | .cond _ a b => match firstLoopX a with
    | some c => some c
    | none => firstLoopX b
  | _ => none
def TBx (b : Option Code) : Code := (b.bind firstLoopX).getD .skip
set_option maxRecDepth 1000000 in
def WIx (w1 : World) (ao : Option Addr) (cap : Nat) (xs : List Oe) (P0 p ms mn pw mw q M A EP : Nat) (a' : Act) (w' : World) : Prop := ∃ u15 u0 u1 u3 u10 u13 u16 u17 u18 u19 u20 u21 u22 u23 u24 u25 u26 u27 u28 u29 u30 u31 u32 u33 u34 u35 u36 u37 u38 u39 u40 u41 u42 u43 u44 u45 u46 u47 u48 u49 u50 u51 u52 u53 u54 u55 u56 u57 u58 u59 u60 u61 u62 u63 u64 u65 u66 u67 u68 u69 u70 u71 u72 u73 u74 u75 u76 u77 u78 u79 u80 u81 u82 u83 u84 u85 u86 u87 u88 u89 u90 u91 u92 u93 u94 u95 u96 u97 u98 u99 u100 u101 u102 u103 u104 u105 u106 u107 u108 u109 u110 u111 u112 u113 u114 u115 u116 u117 u118 u119 u120 u121 u122 u123 u124 u125 u126 u127 u128 u129 u130 u131 u132 u133 u134 u135 u136 u137 u138 u139 u140 u141 u142 u143 u144 u145 u146 u147 u148 u149 u150 u151 u152 u153 u154 u155 u156 u157 u158 u159 u160 u161 u162 u163 u164 u165 u166 u167 u168 u169 u170 u171 u172 u173 u174 u175 u176 u177 u178 u179 u180 u181 u182 u183 u184 u185 u186 u187 u188 u189 u190 u191 u192 u193 u194 u195 u196 u197 u198 u199 u200 u201 u202 u203 u204 u205 u206 u207 u208 u209 u210 u211 u212 u213 u214 u215 u216 u217 u218 u219 u220 u221 u222 u223 u224 u225 u226 u227 u228 u229 u230 u231 u232 u233 u234 u235 u236 u237 u238 u239 u240 u241 u242 u243 u244 u245 u246 u247 u248 u249 u250 u251 u252 u253 u254 u255 u256 u257 u258 u259 u260 u261 u262 u263 u264 u265 u266 u267 u268 u269 u270 u271 u272 u273 u274 u275 u276 u277 u278 u279 u280 u281 u282 u283 u284 u285 u286 u287 u288 u289 u290 u291 u292 u293 u294 u295 u296 u297 u298 u299 u300 u301 u302 u303 u304 u305 u306 u307 u308 u309 u310 u311 u312 u313 u314 u315 u316 u317 u318 u319 u320 u321 u322 u323 u324 u325 u326 u327 u328 u329 u330 u331 u332 u333 u334 u335 u336 u337 u338 u339 u340 u341 u342 u343 u344 u345 u346 u347 u348 u349 u350 u351 u352 u353 u354 u355 u356 u357 u358 u359 u360 u361 u362 u363 u364 u365 u366 u367 u368 u369 u370 u371 u372 u373 u374 : Value, (∃ (k : Nat) (V : Nat → Nat → Value) (v : Value) (s : Xs), k ≤ xs.length ∧ u15 = .int .i64 k ∧ s.beg ≤ k ∧ (s.mtu = M ∧ s.ack = A ∧ s.ep = EP) ∧ Exb w' (fun b => b < w1.heap.size) p ms mn pw mw V q v s s ∧ Below w1.heap.size w1 w') ∧ a' = ⟨#[u0, u1, .int .u64 (EP : Int), u3, .slice ao xs.length cap, undef, undef, undef, undef, undef, u10, .pointer (some ⟨P0, 0, none⟩), .pointer (some ⟨p, 0, none⟩), u13, .pointer (some ⟨q, 0, none⟩), u15, u16, u17, u18, u19, u20, u21, u22, u23, u24, u25, u26, u27, u28, u29, u30, u31, u32, u33, u34, u35, u36, u37, u38, u39, u40, u41, u42, u43, u44, u45, u46, u47, u48, u49, u50, u51, u52, u53, u54, u55, u56, u57, u58, u59, u60, u61, u62, u63, u64, u65, u66, u67, u68, u69, u70, u71, u72, u73, u74, u75, u76, u77, u78, u79, u80, u81, u82, u83, u84, u85, u86, u87, u88, u89, u90, u91, u92, u93, u94, u95, u96, u97, u98, u99, u100, u101, u102, u103, u104, u105, u106, u107, u108, u109, u110, u111, u112, u113, u114, u115, u116, u117, u118, u119, u120, u121, u122, u123, u124, u125, u126, u127, u128, u129, u130, u131, u132, u133, u134, u135, u136, u137, u138, u139, u140, u141, u142, u143, u144, u145, u146, u147, u148, u149, u150, u151, u152, u153, u154, u155, u156, u157, u158, u159, u160, u161, u162, u163, u164, u165, u166, u167, u168, u169, u170, u171, u172, u173, u174, u175, u176, u177, u178, u179, u180, u181, u182, u183, u184, u185, u186, u187, u188, u189, u190, u191, u192, u193, u194, u195, u196, u197, u198, u199, u200, u201, u202, u203, u204, u205, u206, u207, u208, u209, u210, u211, u212, u213, u214, u215, u216, u217, u218, u219, u220, u221, u222, u223, u224, u225, u226, u227, u228, u229, u230, u231, u232, u233, u234, u235, u236, u237, u238, u239, u240, u241, u242, u243, u244, u245, u246, u247, u248, u249, u250, u251, u252, u253, u254, u255, u256, u257, u258, u259, u260, u261, u262, u263, u264, u265, u266, u267, u268, u269, u270, u271, u272, u273, u274, u275, u276, u277, u278, u279, u280, u281, u282, u283, u284, u285, u286, u287, u288, u289, u290, u291, u292, u293, u294, u295, u296, u297, u298, u299, u300, u301, u302, u303, u304, u305, u306, u307, u308, u309, u310, u311, u312, u313, u314, u315, u316, u317, u318, u319, u320, u321, u322, u323, u324, u325, u326, u327, u328, u329, u330, u331, u332, u333, u334, u335, u336, u337, u338, u339, u340, u341, u342, u343, u344, u345, u346, u347, u348, u349, u350, u351, u352, u353, u354, u355, u356, u357, u358, u359, u360, u361, u362, u363, u364, u365, u366, u367, u368, u369, u370, u371, u372, u373, u374], []⟩
def Wmux (n : Nat) (a : Act) (_ : World) : Nat := n - (intOf (a.tmps.getD 15 undef)).toNat
theorem chg_below {w1 u u' : World} (hb : Below w1.heap.size w1 u) (hc : Chg (fun b => ¬ b < w1.heap.size) u u') : Below w1.heap.size w1 u' :=
  ⟨hc.os.trans hb.os, hc.tape.trans hb.tape, hc.output.trans hb.output, Nat.le_trans hb.size hc.size, fun k hk => (hc.block k (Nat.lt_of_lt_of_le hk hb.size) (fun h => h hk)).trans (hb.block k hk)⟩
end Go.Proofs.YtiedgcanndgmoaaGreatDoor
namespace Go.Proofs.YtiedgcanndgmoaaGreatDoor
set_option linter.unusedVariables false
set_option linter.unusedSimpArgs false
open Go.RowKit Go.Maps
set_option maxRecDepth 100000 in
set_option maxHeartbeats 12800000 in
theorem ocase0 (w1 : World) (ao : Option Addr) (cap : Nat) (xs : List Oe) (P0 p ms mn pw mw q M A EP : Nat) (hM : 16 ≤ M ∧ M ≤ 1024) (hAk : A ≤ 4096) (hEP : 1 ≤ EP ∧ EP ≤ 281474976710655) (hl : xs.length ≤ 4398046511103) (HR : Hid (RdOe w1 ao xs)) (HC : Hid (w1.heap[P0]? = some (.cells #[.int .i64 (M : Int), .int .u64 (A : Int), .int .u64 1, .int .i64 0, .int .i64 1, .int .i64 1] 25 (0, 0))))
    (u0 u1 u3 u10 u13 u16 u17 u18 u19 u20 u21 u22 u23 u24 u25 u26 u27 u28 u29 u30 u31 u32 u33 u34 u35 u36 u37 u38 u39 u40 u41 u42 u43 u44 u45 u46 u47 u48 u49 u50 u51 u52 u53 u54 u55 u56 u57 u58 u59 u60 u61 u62 u63 u64 u65 u66 u67 u68 u69 u70 u71 u72 u73 u74 u75 u76 u77 u78 u79 u80 u81 u82 u83 u84 u85 u86 u87 u88 u89 u90 u91 u92 u93 u94 u95 u96 u97 u98 u99 u100 u101 u102 u103 u104 u105 u106 u107 u108 u109 u110 u111 u112 u113 u114 u115 u116 u117 u118 u119 u120 u121 u122 u123 u124 u125 u126 u127 u128 u129 u130 u131 u132 u133 u134 u135 u136 u137 u138 u139 u140 u141 u142 u143 u144 u145 u146 u147 u148 u149 u150 u151 u152 u153 u154 u155 u156 u157 u158 u159 u160 u161 u162 u163 u164 u165 u166 u167 u168 u169 u170 u171 u172 u173 u174 u175 u176 u177 u178 u179 u180 u181 u182 u183 u184 u185 u186 u187 u188 u189 u190 u191 u192 u193 u194 u195 u196 u197 u198 u199 u200 u201 u202 u203 u204 u205 u206 u207 u208 u209 u210 u211 u212 u213 u214 u215 u216 u217 u218 u219 u220 u221 u222 u223 u224 u225 u226 u227 u228 u229 u230 u231 u232 u233 u234 u235 u236 u237 u238 u239 u240 u241 u242 u243 u244 u245 u246 u247 u248 u249 u250 u251 u252 u253 u254 u255 u256 u257 u258 u259 u260 u261 u262 u263 u264 u265 u266 u267 u268 u269 u270 u271 u272 u273 u274 u275 u276 u277 u278 u279 u280 u281 u282 u283 u284 u285 u286 u287 u288 u289 u290 u291 u292 u293 u294 u295 u296 u297 u298 u299 u300 u301 u302 u303 u304 u305 u306 u307 u308 u309 u310 u311 u312 u313 u314 u315 u316 u317 u318 u319 u320 u321 u322 u323 u324 u325 u326 u327 u328 u329 u330 u331 u332 u333 u334 u335 u336 u337 u338 u339 u340 u341 u342 u343 u344 u345 u346 u347 u348 u349 u350 u351 u352 u353 u354 u355 u356 u357 u358 u359 u360 u361 u362 u363 u364 u365 u366 u367 u368 u369 u370 u371 u372 u373 u374 : Value) (wr : World) (k : Nat) (V : Nat → Nat → Value) (v : Value) (s : Xs) (hk : k ≤ xs.length) (HSB : Hid (s.beg ≤ k)) (HSC : Hid (s.mtu = M ∧ s.ack = A ∧ s.ep = EP)) (HE : Hid (Exb wr (fun b => b < w1.heap.size) p ms mn pw mw V q v s s)) (HB : Hid (Below w1.heap.size w1 wr)) (hlt0 : 0 < w1.heap.size) (hlt : k < xs.length) (hkd : ¬ xs[k].kd = 1 ∧ ¬ xs[k].kd = 2 ∧ ¬ xs[k].kd = 3 ∧ ¬ xs[k].kd = 4) (Q0 : Exit → Act → World → Prop) :
    Code.wp Tryz.prog (TBx Tryz.f3.body) (Exit.then (fun a' w'' => WIx w1 ao cap xs P0 p ms mn pw mw q M A EP a' w'' ∧ Wmux xs.length a' w'' < Wmux xs.length ⟨#[u0, u1, .int .u64 (EP : Int), u3, .slice ao xs.length cap, undef, undef, undef, undef, undef, u10, .pointer (some ⟨P0, 0, none⟩), .pointer (some ⟨p, 0, none⟩), u13, .pointer (some ⟨q, 0, none⟩), .int .i64 k, u16, u17, u18, u19, u20, u21, u22, u23, u24, u25, u26, u27, u28, u29, u30, u31, u32, u33, u34, u35, u36, u37, u38, u39, u40, u41, u42, u43, u44, u45, u46, u47, u48, u49, u50, u51, u52, u53, u54, u55, u56, u57, u58, u59, u60, u61, u62, u63, u64, u65, u66, u67, u68, u69, u70, u71, u72, u73, u74, u75, u76, u77, u78, u79, u80, u81, u82, u83, u84, u85, u86, u87, u88, u89, u90, u91, u92, u93, u94, u95, u96, u97, u98, u99, u100, u101, u102, u103, u104, u105, u106, u107, u108, u109, u110, u111, u112, u113, u114, u115, u116, u117, u118, u119, u120, u121, u122, u123, u124, u125, u126, u127, u128, u129, u130, u131, u132, u133, u134, u135, u136, u137, u138, u139, u140, u141, u142, u143, u144, u145, u146, u147, u148, u149, u150, u151, u152, u153, u154, u155, u156, u157, u158, u159, u160, u161, u162, u163, u164, u165, u166, u167, u168, u169, u170, u171, u172, u173, u174, u175, u176, u177, u178, u179, u180, u181, u182, u183, u184, u185, u186, u187, u188, u189, u190, u191, u192, u193, u194, u195, u196, u197, u198, u199, u200, u201, u202, u203, u204, u205, u206, u207, u208, u209, u210, u211, u212, u213, u214, u215, u216, u217, u218, u219, u220, u221, u222, u223, u224, u225, u226, u227, u228, u229, u230, u231, u232, u233, u234, u235, u236, u237, u238, u239, u240, u241, u242, u243, u244, u245, u246, u247, u248, u249, u250, u251, u252, u253, u254, u255, u256, u257, u258, u259, u260, u261, u262, u263, u264, u265, u266, u267, u268, u269, u270, u271, u272, u273, u274, u275, u276, u277, u278, u279, u280, u281, u282, u283, u284, u285, u286, u287, u288, u289, u290, u291, u292, u293, u294, u295, u296, u297, u298, u299, u300, u301, u302, u303, u304, u305, u306, u307, u308, u309, u310, u311, u312, u313, u314, u315, u316, u317, u318, u319, u320, u321, u322, u323, u324, u325, u326, u327, u328, u329, u330, u331, u332, u333, u334, u335, u336, u337, u338, u339, u340, u341, u342, u343, u344, u345, u346, u347, u348, u349, u350, u351, u352, u353, u354, u355, u356, u357, u358, u359, u360, u361, u362, u363, u364, u365, u366, u367, u368, u369, u370, u371, u372, u373, u374], []⟩ wr) Q0) ⟨#[u0, u1, .int .u64 (EP : Int), u3, .slice ao xs.length cap, undef, undef, undef, undef, undef, u10, .pointer (some ⟨P0, 0, none⟩), .pointer (some ⟨p, 0, none⟩), u13, .pointer (some ⟨q, 0, none⟩), .int .i64 k, u16, u17, u18, u19, u20, u21, u22, u23, u24, u25, u26, u27, u28, u29, u30, u31, u32, u33, u34, u35, u36, u37, u38, u39, u40, u41, u42, u43, u44, u45, u46, u47, u48, u49, u50, u51, u52, u53, u54, u55, u56, u57, u58, u59, u60, u61, u62, u63, u64, u65, u66, u67, u68, u69, u70, u71, u72, u73, u74, u75, u76, u77, u78, u79, u80, u81, u82, u83, u84, u85, u86, u87, u88, u89, u90, u91, u92, u93, u94, u95, u96, u97, u98, u99, u100, u101, u102, u103, u104, u105, u106, u107, u108, u109, u110, u111, u112, u113, u114, u115, u116, u117, u118, u119, u120, u121, u122, u123, u124, u125, u126, u127, u128, u129, u130, u131, u132, u133, u134, u135, u136, u137, u138, u139, u140, u141, u142, u143, u144, u145, u146, u147, u148, u149, u150, u151, u152, u153, u154, u155, u156, u157, u158, u159, u160, u161, u162, u163, u164, u165, u166, u167, u168, u169, u170, u171, u172, u173, u174, u175, u176, u177, u178, u179, u180, u181, u182, u183, u184, u185, u186, u187, u188, u189, u190, u191, u192, u193, u194, u195, u196, u197, u198, u199, u200, u201, u202, u203, u204, u205, u206, u207, u208, u209, u210, u211, u212, u213, u214, u215, u216, u217, u218, u219, u220, u221, u222, u223, u224, u225, u226, u227, u228, u229, u230, u231, u232, u233, u234, u235, u236, u237, u238, u239, u240, u241, u242, u243, u244, u245, u246, u247, u248, u249, u250, u251, u252, u253, u254, u255, u256, u257, u258, u259, u260, u261, u262, u263, u264, u265, u266, u267, u268, u269, u270, u271, u272, u273, u274, u275, u276, u277, u278, u279, u280, u281, u282, u283, u284, u285, u286, u287, u288, u289, u290, u291, u292, u293, u294, u295, u296, u297, u298, u299, u300, u301, u302, u303, u304, u305, u306, u307, u308, u309, u310, u311, u312, u313, u314, u315, u316, u317, u318, u319, u320, u321, u322, u323, u324, u325, u326, u327, u328, u329, u330, u331, u332, u333, u334, u335, u336, u337, u338, u339, u340, u341, u342, u343, u344, u345, u346, u347, u348, u349, u350, u351, u352, u353, u354, u355, u356, u357, u358, u359, u360, u361, u362, u363, u364, u365, u366, u367, u368, u369, u370, u371, u372, u373, u374], []⟩ wr := by
  conv => arg 2; whnf
  obtain ⟨b, o, rfl, hok, hrg⟩ := HR.out k hlt
  obtain ⟨y, hy⟩ : ∃ y, y = xs[k] := ⟨_, rfl⟩
  rw [← hy] at hok hrg hkd
  have HOK : Hid (OeOk w1 y) := hok
  have hk0 : (0 : Int) ≤ (k : Int) := by omega
  have hkI : (k : Int) < (xs.length : Int) := by omega
  have hkw : IntKind.i64.wrap ((k : Int) + 1) = ((k + 1 : Nat) : Int) := by rw [IntKind.wrap_i64]; omega
  have hLD := rangeAt_below hrg HB.out
  obtain ⟨wa, hwa⟩ : ∃ wa, wa = wr.alloc (.cells y.c tOe) := ⟨_, rfl⟩
  have hba : Below wr.heap.size wr wa := by rw [hwa]; exact alw (Below.refl _ _) _
  have hbxa : wa.heap[wr.heap.size]? = some (.cells y.c tOe (0, 0)) := by rw [hwa]; exact heap_alloc_new wr _
  have hoc := oeCells hbxa
  have hHa : Exb wa (fun b => b < w1.heap.size ∨ b = wr.heap.size) p ms mn pw mw V q v s s := by rw [hwa]; exact HE.out.box _
  have HEa : Hid _ := hHa
  have HBa : Hid (Below w1.heap.size w1 wa) := below_next HB.out hba
  have HXa : Hid _ := hbxa
  have HWA : Hid (wa = _) := hwa
  have HSZa : Hid (w1.heap.size ≤ wr.heap.size ∧ wr.heap.size < wa.heap.size) := ⟨HB.out.size, (Array.getElem?_eq_some_iff.1 hbxa).1⟩
  rw [hwa] at hoc
  clear hy hok hrg hwa hba hbxa hHa
  have k1 : (y.kd == 1) = false := by have := hkd.1; simp; omega
  have k2 : (y.kd == 2) = false := by have := hkd.2.1; simp; omega
  have k3 : (y.kd == 3) = false := by have := hkd.2.2.1; simp; omega
  have k4 : (y.kd == 4) = false := by have := hkd.2.2.2; simp; omega
  clear hkd
  go_upto_region 58 with (first
    | (refine wpList_load_g (by rfl) tOe _ rfl b (o + k * 15) (by rfl) y.c.toList _ hLD Tryz.underlying43 rfl infoOe ?_))
  rw [← HWA.out] at hoc ⊢
  clear hLD
  obtain ⟨n9, hn9⟩ : ∃ n9, n9 = (s).L.length := ⟨_, rfl⟩
  have hn64 : n9 ≤ 64 := by rw [hn9]; exact HEa.out.a.inv.len
  obtain ⟨a9, cp9, hv9, -, -, -, hrd9⟩ := OwnG.val HEa.out.b.row
  have hv9' : v = .slice a9 n9 cp9 := by rw [hn9]; exact hv9
  have hcs9 : ∀ u, Below wa.heap.size wa u → u.cell? ⟨q, 0, none⟩ = some (.slice a9 n9 cp9) := fun u hu => by rw [← hv9']; exact (HEa.out.b.below hu).cell 0
  have hc9a := hcs9 wa (Below.refl _ _)
  have HN9 : Hid _ := hn9
  have HR9 : Hid (RdG KBs wa a9 (s).L) := hrd9
  clear hn9 hv9 hv9' hrd9
  go_wp2
  go_loopw [37, 38] (fun u j wv => ∃ i : Nat, i ≤ n9 ∧ j = .int .i64 (i : Int) ∧ OwnG KKy wv wa.heap.size u (((s).L.take i).map Xe.k) ∧ Below wa.heap.size wa wv) (fun _ j _ => n9 - (intOf j).toNat)
  case atStart => exact ⟨0, Nat.zero_le _, rfl, World.ownsRow_nil _ _ _ _, Below.refl _ _⟩
  case round =>
    rename World => wv
    obtain ⟨i, hin, rfl, hown, hbv⟩ := hrel
    have hiw : IntKind.i64.wrap ((i : Int) + 1) = ((i + 1 : Nat) : Int) := by rw [IntKind.wrap_i64]; omega
    have hc9 := hcs9 wv hbv
    by_cases hlt9 : i < n9
    · have hlti : (i : Int) < (n9 : Int) := by omega
      have hi0 : (0 : Int) ≤ (i : Int) := by omega
      have hi1 : i < (s).L.length := by rw [← HN9.out]; exact hlt9
      obtain ⟨b9, o9, rfl, r1, -⟩ := RdG.below HR9.out hbv i hi1
      obtain ⟨x, hx⟩ : ∃ x : Xe, x = (s).L[i] := ⟨_, rfl⟩
      have g1 := r1 1 (.int .i64 x.k.1) (by rw [hx]; rfl)
      have g2 : wv.cell? ⟨b9, o9 + i * 4 + 1 + 1, none⟩ = some (.int .u64 (x.k.2 : Int)) := r1 2 (.int .u64 (x.k.2 : Int)) (by rw [hx]; rfl)
      have HT : Hid (((s).L.take i).map Xe.k ++ [x.k] = ((s).L.take (i + 1)).map Xe.k) := by unfold Hid; rw [List.take_succ_eq_append_getElem hi1, ← hx]; simp
      have HSZ : Hid (wa.heap.size ≤ wv.heap.size) := hbv.size
      have HO : Hid (OwnG KKy (wv.alloc (.cells #[.int .i64 x.k.1, .int .u64 (x.k.2 : Int)] tFk)) wa.heap.size u37 (((s).L.take i).map Xe.k)) := hown.below (alw (Below.refl _ _) _)
      have HL9 : Hid (∀ b, u37.ownBlock = some b → wa.heap.size ≤ b) := fun b hb => (hown.lt' hb).1
      obtain ⟨m9, hm9⟩ : ∃ m9, m9 = (((s).L.take i).map Xe.k).length := ⟨_, rfl⟩
      have hm64 : m9 ≤ 64 := by rw [hm9, List.length_map, List.length_take]; omega
      have HM9 : Hid _ := hm9
      have HBV : Hid _ := hbv
      clear r1 hx hi1 hown hbv hm9 hcs9
      go_wp2_with (at_builtin; refine wp_appG1 (K := KKy) rfl _ _ rfl wa.heap.size u37 (((s).L.take i).map Xe.k) x.k m9 HM9.out ⟨wv.heap.size, 0, none⟩ 1 rfl HO.out rfl (rdF_new wv x.k _ rfl) (by show (m9 + 1) * 16 ≤ _; omega) (by simp only [maxLen]; omega) (by have := HSZ.out; simp; omega) ?_; intro g7 c7 w7 hown7 hg7 hlie7; rw [HT.out] at hown7; have HO7 : Hid _ := hown7; have HG7 : Hid _ := hg7; clear hown7 hg7 hlie7)
      go_roundw
      case rel => exact ⟨i + 1, hlt9, by go_num, HO7.out, (alw HBV.out _).grown HG7.out (by have := HSZ.out; simp; omega) (fun j hj => HL9.out j hj)⟩
      case measure => simp [intOf]; omega
    · have hlti : ¬ (i : Int) < (n9 : Int) := by omega
      have htk : (s).L.take i = (s).L := List.take_of_length_le (by rw [← HN9.out]; omega)
      rw [htk] at hown
      have HEv : Hid _ := HEa.out.below hbv
      have HOV : Hid _ := hown
      obtain ⟨n8, hn8⟩ : ∃ n8, n8 = ((s).L.map Xe.k).length := ⟨_, rfl⟩
      have hn864 : n8 ≤ 64 := by rw [hn8, List.length_map, ← HN9.out]; exact hn64
      obtain ⟨ab, cb, hvb, -, -, -, hrb⟩ := hown.val
      rw [← hn8] at hvb
      subst hvb
      have HN8 : Hid _ := hn8
      have HRB : Hid (RdG KKy wv ab ((s).L.map Xe.k)) := hrb
      have HBV : Hid _ := hbv
      clear htk hown hbv hcs9 hn8 hrb
      go_wp2_with (first
        | (go_at_call 18; refine Calls.mono (xbusy_t HEv.out.a) ?_; rintro e9 w5 ⟨va, rfl, howna, hb5⟩; obtain ⟨aa, ca, hva, -, -, -, hra⟩ := howna.val; rw [← HN8.out] at hva; subst hva; have HRA : Hid (RdG KKy w5 aa ((s).L.map Xe.k)) := hra; have HB5 : Hid _ := hb5; clear howna hb5 hra)
        | (go_at_call 15; refine Calls.mono (sameKeys_t aa ab n8 ca cb ((s).L.map Xe.k) HN8.out (by omega) HRA.out (RdG.below HRB.out HB5.out)) ?_; rintro e9 w7 ⟨rfl, hb7⟩; have HB7 : Hid _ := hb7; clear hb7))
      refine ⟨?_, ?_⟩
      · unfold WIx
        iterate 365 (apply Exists.intro)
        have h9 := HEv.out.below (below_next HB5.out HB7.out)
        exact ⟨⟨k + 1, V, v, s, by omega, by go_num, Nat.le_trans HSB.out (Nat.le_succ _), HSC.out, h9.less (fun b hb => .inl hb) (Nat.lt_of_lt_of_le (Nat.lt_of_le_of_lt (Nat.zero_le _) hlt0) (Nat.le_refl _)), HBa.out.trans ((below_next HBV.out (below_next HB5.out HB7.out)).mono HBa.out.size)⟩, rfl⟩
      · simp [Wmux, intOf]; omega
end Go.Proofs.YtiedgcanndgmoaaGreatDoor
