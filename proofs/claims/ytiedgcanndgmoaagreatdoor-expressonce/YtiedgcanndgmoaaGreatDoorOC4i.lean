import Derived.Test.YtiedgcanndgmoaaGreatDoorOC0
namespace Go.Proofs.YtiedgcanndgmoaaGreatDoor
set_option linter.unusedVariables false
set_option linter.unusedSimpArgs false
open Go.RowKit Go.Maps
section
variable {w w' : World} {q : Nat} {v v' v'' : Value} {s : Xs} {p ms mn pw mw : Nat} {V : Nat → Nat → Value}
theorem bof_in (h : Bk w q v s) (x : Xe) (hx : x ∈ s.L) : Calls Tryz.prog 9 #[.pointer (some ⟨q, 0, none⟩), fv x.k] w fun e w' => e = .returned (.tuple #[xes x, .bool true]) ∧ Below w.heap.size w w' :=
  (bof_t h x.k).mono (fun e w' h9 => by
    rcases h9 with ⟨⟨x', h1, h2, h3⟩ | ⟨h1, -⟩, hb⟩
    · rw [key_inj h.inv.nk h1 hx h2] at h3
      exact ⟨h3, hb⟩
    · exact absurd (List.mem_map.2 ⟨x, hx, rfl⟩) h1)
theorem bof_no (h : Bk w q v s) (k : Fk) (hx : k ∉ s.L.map Xe.k) : Calls Tryz.prog 9 #[.pointer (some ⟨q, 0, none⟩), fv k] w fun e w' => e = .returned (.tuple #[xe0, .bool false]) ∧ Below w.heap.size w w' :=
  (bof_t h k).mono (fun e w' h9 => by
    rcases h9 with ⟨⟨x', h1, h2, h3⟩ | ⟨-, h3⟩, hb⟩
    · exact absurd (List.mem_map.2 ⟨x', h1, h2⟩) hx
    · exact ⟨h3, hb⟩)
theorem bnum_in (h : Bk w q v s) (x : Xe) (hx : x ∈ s.L) : Calls Tryz.prog 10 #[.pointer (some ⟨q, 0, none⟩), .int .u64 (x.n : Int)] w fun e w' => e = .returned (.tuple #[xes x, .bool true]) ∧ Below w.heap.size w w' :=
  (bnum_t h x.n).mono (fun e w' h9 => by
    rcases h9 with ⟨⟨x', h1, h2, h3⟩ | ⟨h1, -⟩, hb⟩
    · rw [num_inj h.inv.nn h1 hx h2] at h3
      exact ⟨h3, hb⟩
    · exact absurd (List.mem_map.2 ⟨x, hx, rfl⟩) h1)
theorem bnum_no (h : Bk w q v s) (z : Nat) (hx : z ∉ s.L.map Xe.n) : Calls Tryz.prog 10 #[.pointer (some ⟨q, 0, none⟩), .int .u64 (z : Int)] w fun e w' => e = .returned (.tuple #[xe0, .bool false]) ∧ Below w.heap.size w w' :=
  (bnum_t h z).mono (fun e w' h9 => by
    rcases h9 with ⟨⟨x', h1, h2, h3⟩ | ⟨-, h3⟩, hb⟩
    · exact absurd (List.mem_map.2 ⟨x', h1, h2⟩) hx
    · exact ⟨h3, hb⟩)
/-- whatever they find -/
theorem bof_any (h : Bk w q v s) (k : Fk) : Calls Tryz.prog 9 #[.pointer (some ⟨q, 0, none⟩), fv k] w fun e w' => (∃ x b, e = .returned (.tuple #[xes x, .bool b])) ∧ Below w.heap.size w w' :=
  (bof_t h k).mono (fun e w' h9 => by
    rcases h9 with ⟨⟨x', h1, h2, h3⟩ | ⟨-, h3⟩, hb⟩
    · exact ⟨⟨x', true, h3⟩, hb⟩
    · exact ⟨⟨⟨0, (0, 0), 0, 0, 0⟩, false, h3⟩, hb⟩)
theorem bnum_any (h : Bk w q v s) (z : Nat) : Calls Tryz.prog 10 #[.pointer (some ⟨q, 0, none⟩), .int .u64 (z : Int)] w fun e w' => (∃ x b, e = .returned (.tuple #[xes x, .bool b])) ∧ Below w.heap.size w w' :=
  (bnum_t h z).mono (fun e w' h9 => by
    rcases h9 with ⟨⟨x', h1, h2, h3⟩ | ⟨-, h3⟩, hb⟩
    · exact ⟨⟨x', true, h3⟩, hb⟩
    · exact ⟨⟨⟨0, (0, 0), 0, 0, 0⟩, false, h3⟩, hb⟩)
theorem neq_do (u : World) (a b c : Int) : (binOp .neq tDo (.agg #[.int .i64 a, .int .u64 b, .int .i64 c]) (.agg #[.int .i64 a, .int .u64 b, .int .i64 c])).run Tryz.prog u = .ok (.bool false) u := by
  go_simp
theorem rep_valid {ep z : Int} {cd : Nat} (h1 : nameOk ep) (h2 : nameOk z) (hc : cd ≤ 7) : validR 2 ep z 0 0 0 0 (cd : Int) 0 [] :=
  ⟨⟨h1, h2⟩, .inr (.inl ⟨rfl, ⟨rfl, rfl, rfl, rfl⟩, ⟨by omega, by omega⟩, trivial, .inr rfl⟩)⟩
/-- a report of a number that is not under way -/
theorem xhear_none (h : XSt w p ms mn pw mw V s) (z cd EP : Nat) (hep : s.ep = EP) (hz : z ∉ s.L.map Xe.n) (hc : 1 ≤ cd ∧ cd ≤ 7) : Calls Tryz.prog 13 #[.pointer (some ⟨p, 0, none⟩), .agg (ucl 2 (EP : Int) (z : Int) 0 0 0 none 0 0 (cd : Int) none 0 0)] w fun e w' => e = .returned (.tuple #[doneV 0 0 0, .bool false]) ∧ Below w.heap.size w w' := by
  subst hep
  by_cases hn : nameOk (z : Int)
  · exact xhear_out h z (cd : Int) 0 0 0 none 0 0 none 0 0 [] rfl (fun j hj => by simp at hj) (by omega) (Nat.le_refl _) (rep_valid ⟨by have := h.inv.e.1; omega, by have := h.inv.e.2; unfold mxX at this; omega⟩ hn hc.2) (by omega) hz
  · exact xhear_bad h (s.ep : Int) (z : Int) (cd : Int) 0 0 0 none 0 0 none 0 0 [] rfl (fun j hj => by simp at hj) (by omega) (Nat.le_refl _) (fun h9 => hn h9.1.2)
theorem xhear_hit (h : XSt w p ms mn pw mw V s) (x : Xe) (hx : x ∈ s.L) (cd EP : Nat) (hep : s.ep = EP) (hc : 1 ≤ cd ∧ cd ≤ 7) : Calls Tryz.prog 13 #[.pointer (some ⟨p, 0, none⟩), .agg (ucl 2 (EP : Int) (x.n : Int) 0 0 0 none 0 0 (cd : Int) none 0 0)] w fun e w' => e = .returned (.tuple #[doneV x.k.1 (x.k.2 : Int) (cd : Int), .bool true]) ∧ ∃ V', XSt w' p ms mn pw mw V' { s with L := dropX s.L x.n } ∧ XStp w w' p ms mn pw mw V V' := by
  subst hep
  have h1 := h.inv.num x hx
  exact xhear_in h x hx (cd : Int) 0 0 0 none 0 0 none 0 0 [] rfl (fun j hj => by simp at hj) (by omega) (Nat.le_refl _) (rep_valid ⟨by have := h.inv.e.1; omega, by have := h.inv.e.2; unfold mxX at this; omega⟩ ⟨by omega, by unfold mxX at h1; omega⟩ hc.2) (by omega)
theorem kybs {w : World} {B B' : Nat} {u v : Value} {xs : List Fk} {ys : List Xe} (h : OwnG KKy w B u xs) (k : OwnG KBs w B' v ys) : ∀ b, u.ownBlock = some b → v.ownBlock ≠ some b := fun b hb hv => by
  obtain ⟨c1, h1⟩ := h.at_ hb
  obtain ⟨c2, h2⟩ := k.at_ hv
  exact absurd (ty_of h1 h2) (by decide)
/-- append(v, x...) inside a region that draws -/
theorem wpo_appN {w : World} {o : Oper} {a : Act} {K : Act → World → Prop} {Q : Exit → Act → World → Prop} (s x : Operand)
    (ho : o.op = .call { callee := .builtin .append, args := #[s, x], argTypes := #[38, 38] }) (B : Nat) (v : Value) (xs ys : List UInt8) (ao : Option Addr) (cap : Nat)
    (hs : a.eval s = v) (hown : Own w B v xs) (hx : a.eval x = .slice ao ys.length cap) (hr : Rd w ao ys) (hnil : ao = none → cap = 0)
    (hb : xs.length + ys.length ≤ 140737488355328) (hbase : B ≤ w.heap.size)
    (h : ∀ v' w', Own w' B v' (xs ++ ys) → w.grownBy w' v.ownBlock → K (a.put o.dst v') w') : Oper.wp Tryz.prog o a w K Q := by
  obtain ⟨i0, hi, hz0, hz1, hz2⟩ := info_parts info5
  rcases ao with _ | ad
  · have h0 : ys = [] := by
      rcases ys with _ | ⟨y, ys⟩
      · rfl
      · obtain ⟨b, o, h1, _⟩ := hr (by simp); cases h1
    subst h0
    obtain rfl := hnil rfl
    have hrun := run_append_owned_none (P := Tryz.prog) (w := w) B 38 o.type 5 i0 1 Tryz.underlying38 hi v xs.length (bv xs) hown
    unfold Oper.wp
    have hx' : a.eval x = .slice none 0 0 := hx
    simp [execOp, ho, resolve, invoke, builtin, hs, hx', hrun, Result.andThen]
    exact h v w (by simpa using hown) ⟨rfl, rfl, rfl, Nat.le_refl _, fun _ _ _ => rfl⟩
  · refine wp_append_own w s x 38 ho B 5 i0 (.int .u8 0) 1 1 Tryz.underlying38 hi hz0 hz1 hz2 rfl (by decide) v xs.length (bv xs) hs hown ad ys.length cap (bv ys) hx (by simp [bv_length]) ?_ (bv_one ys) (by simp only [maxLen]; omega) (by omega) hbase ?_
    · intro j u hj
      have hlt : j < ys.length := by
        have := (List.getElem?_eq_some_iff.1 hj).1
        simpa [bv_length] using this
      obtain ⟨b, o, h1, hc⟩ := hr (by omega)
      cases h1
      rw [bv_get ys j hlt] at hj
      rw [Go.WideShapes.add_plain, hc j hlt]
      exact hj
    · intro v' w' h1 h2 _
      exact h v' w' (by unfold Own; rw [bv_append, List.length_append]; exact h1) h2
theorem Bk.setRowT (h : Bk w q v s) (hc : Chg (fun b => v.ownBlock = some b) w w') {t : Xs} (e1 : t.mtu = s.mtu) (e2 : t.ack = s.ack) (e3 : t.ep = s.ep) (e4 : t.clk = s.clk) {v' : Value} (hr : OwnG KBs w' 0 v' t.L) (hv : ∀ b, v'.ownBlock = some b → v.ownBlock = some b ∨ w.heap.size ≤ b) (hi : XInv t) : Bk (w'.setCell ⟨q, 0, none⟩ v') q v' t ∧ RxStp w (w'.setCell ⟨q, 0, none⟩ v') q v v' := by
  have hb := (hc.block q h.ql (fun e => h.qv q e rfl)).trans h.blk
  have hq : ∀ b, v'.ownBlock = some b → b ≠ q := fun b hb e => by
    rcases hv b hb with h1 | h1
    · exact h.qv b h1 e
    · have := h.ql; omega
  refine ⟨⟨?_, hr.kept (fun b hb => heap_setCell_other w' ⟨q, 0, none⟩ b _ (hq b hb)), hi⟩, ?_, ?_⟩
  · have h9 := heap_setCell_same w' q 0 (cellsB s v) tBo v' hb
    unfold cellsB
    rw [e4]
    exact h9
  · exact (hc.mono (fun b e => .inr e)).trans (Chg.of_grown (F := fun b => b = q) (gset1 w' q 0 v') (fun b e => (Option.some.inj e).symm)) (fun i e => .inl (.inl e))
  · rintro b (rfl | hb)
    · exact .inl (.inl rfl)
    · rcases hv b hb with h1 | h1
      · exact .inl (.inr h1)
      · exact .inr h1
/-- a second Tick at the same time tells nothing more -/
theorem tick_twice (s : Xs) (x : Nat) : dueX { tickX { s with clk := max s.clk (min x mxX) } with clk := max (tickX { s with clk := max s.clk (min x mxX) }).clk (min x mxX) } = [] ∧ tickX { tickX { s with clk := max s.clk (min x mxX) } with clk := max (tickX { s with clk := max s.clk (min x mxX) }).clk (min x mxX) } = tickX { s with clk := max s.clk (min x mxX) } := by
  obtain ⟨C, hC⟩ : ∃ C, C = max s.clk (min x mxX) := ⟨_, rfl⟩
  have h1 : max C (min x mxX) = C := by omega
  rw [← hC]
  have h2 : max (tickX { s with clk := C }).clk (min x mxX) = C := h1
  rw [h2]
  constructor
  · show (s.L.filter _).filter _ = []
    rw [List.filter_eq_nil_iff]
    intro a ha
    have := (List.mem_filter.1 ha).2
    simp at this ⊢
    exact this
  · show ({ tickX { s with clk := C } with clk := C, N := C, L := (s.L.filter (fun x => decide (C < x.ov))).filter (fun x => decide (C < x.ov)) } : Xs) = _
    rw [List.filter_filter]
    simp only [Bool.and_self]
    rfl
theorem Exb.mores {H G : Nat → Prop} {t : Xs} (h : Exb w H p ms mn pw mw V q v s t) (hG : ∀ b, G b → b < w.heap.size ∧ ¬ footX p ms mn pw mw V b ∧ ¬ footR q v b) : Exb w (fun b => H b ∨ G b) p ms mn pw mw V q v s t :=
  ⟨h.a, h.b, h.ap, fun b hb => by
    rcases hb with hb | hb
    · exact h.av b hb
    · exact hG b hb, h.tz, .inl h.h0⟩
theorem drop_no (L : List Xe) (z : Nat) : z ∉ (dropX L z).map Xe.n := fun h => by
  obtain ⟨x, h1, h2⟩ := List.mem_map.1 h
  have := (List.mem_filter.1 h1).2
  simp at this
  exact this h2
end
end Go.Proofs.YtiedgcanndgmoaaGreatDoor
namespace Go.Proofs.YtiedgcanndgmoaaGreatDoor
set_option linter.unusedVariables false
set_option linter.unusedSimpArgs false
open Go.RowKit Go.Maps
set_option maxRecDepth 100000 in
set_option maxHeartbeats 12800000 in
theorem ocase4i (w1 : World) (ao : Option Addr) (cap : Nat) (xs : List Oe) (P0 p ms mn pw mw q M A EP : Nat) (hM : 16 ≤ M ∧ M ≤ 1024) (hAk : A ≤ 4096) (hEP : 1 ≤ EP ∧ EP ≤ 281474976710655) (hl : xs.length ≤ 4398046511103) (HR : Hid (RdOe w1 ao xs)) (HC : Hid (w1.heap[P0]? = some (.cells #[.int .i64 (M : Int), .int .u64 (A : Int), .int .u64 1, .int .i64 0, .int .i64 1, .int .i64 1] 25 (0, 0))))
    (u0 u1 u3 u10 u13 u16 u17 u18 u19 u20 u21 u22 u23 u24 u25 u26 u27 u28 u29 u30 u31 u32 u33 u34 u35 u36 u37 u38 u39 u40 u41 u42 u43 u44 u45 u46 u47 u48 u49 u50 u51 u52 u53 u54 u55 u56 u57 u58 u59 u60 u61 u62 u63 u64 u65 u66 u67 u68 u69 u70 u71 u72 u73 u74 u75 u76 u77 u78 u79 u80 u81 u82 u83 u84 u85 u86 u87 u88 u89 u90 u91 u92 u93 u94 u95 u96 u97 u98 u99 u100 u101 u102 u103 u104 u105 u106 u107 u108 u109 u110 u111 u112 u113 u114 u115 u116 u117 u118 u119 u120 u121 u122 u123 u124 u125 u126 u127 u128 u129 u130 u131 u132 u133 u134 u135 u136 u137 u138 u139 u140 u141 u142 u143 u144 u145 u146 u147 u148 u149 u150 u151 u152 u153 u154 u155 u156 u157 u158 u159 u160 u161 u162 u163 u164 u165 u166 u167 u168 u169 u170 u171 u172 u173 u174 u175 u176 u177 u178 u179 u180 u181 u182 u183 u184 u185 u186 u187 u188 u189 u190 u191 u192 u193 u194 u195 u196 u197 u198 u199 u200 u201 u202 u203 u204 u205 u206 u207 u208 u209 u210 u211 u212 u213 u214 u215 u216 u217 u218 u219 u220 u221 u222 u223 u224 u225 u226 u227 u228 u229 u230 u231 u232 u233 u234 u235 u236 u237 u238 u239 u240 u241 u242 u243 u244 u245 u246 u247 u248 u249 u250 u251 u252 u253 u254 u255 u256 u257 u258 u259 u260 u261 u262 u263 u264 u265 u266 u267 u268 u269 u270 u271 u272 u273 u274 u275 u276 u277 u278 u279 u280 u281 u282 u283 u284 u285 u286 u287 u288 u289 u290 u291 u292 u293 u294 u295 u296 u297 u298 u299 u300 u301 u302 u303 u304 u305 u306 u307 u308 u309 u310 u311 u312 u313 u314 u315 u316 u317 u318 u319 u320 u321 u322 u323 u324 u325 u326 u327 u328 u329 u330 u331 u332 u333 u334 u335 u336 u337 u338 u339 u340 u341 u342 u343 u344 u345 u346 u347 u348 u349 u350 u351 u352 u353 u354 u355 u356 u357 u358 u359 u360 u361 u362 u363 u364 u365 u366 u367 u368 u369 u370 u371 u372 u373 u374 : Value) (wr : World) (k : Nat) (V : Nat → Nat → Value) (v : Value) (s : Xs) (hk : k ≤ xs.length) (HSB : Hid (s.beg ≤ k)) (HSC : Hid (s.mtu = M ∧ s.ack = A ∧ s.ep = EP)) (HE : Hid (Exb wr (fun b => b < w1.heap.size) p ms mn pw mw V q v s s)) (HB : Hid (Below w1.heap.size w1 wr)) (hlt0 : 0 < w1.heap.size) (hlt : k < xs.length) (hkd : xs[k].kd = 4) (hin : xs[k].k ∈ s.L.map Xe.k) (Q0 : Exit → Act → World → Prop) :
    Code.wp Tryz.prog (TBx Tryz.f3.body) (Exit.then (fun a' w'' => WIx w1 ao cap xs P0 p ms mn pw mw q M A EP a' w'' ∧ Wmux xs.length a' w'' < Wmux xs.length ⟨#[u0, u1, .int .u64 (EP : Int), u3, .slice ao xs.length cap, undef, undef, undef, undef, undef, u10, .pointer (some ⟨P0, 0, none⟩), .pointer (some ⟨p, 0, none⟩), u13, .pointer (some ⟨q, 0, none⟩), .int .i64 k, u16, u17, u18, u19, u20, u21, u22, u23, u24, u25, u26, u27, u28, u29, u30, u31, u32, u33, u34, u35, u36, u37, u38, u39, u40, u41, u42, u43, u44, u45, u46, u47, u48, u49, u50, u51, u52, u53, u54, u55, u56, u57, u58, u59, u60, u61, u62, u63, u64, u65, u66, u67, u68, u69, u70, u71, u72, u73, u74, u75, u76, u77, u78, u79, u80, u81, u82, u83, u84, u85, u86, u87, u88, u89, u90, u91, u92, u93, u94, u95, u96, u97, u98, u99, u100, u101, u102, u103, u104, u105, u106, u107, u108, u109, u110, u111, u112, u113, u114, u115, u116, u117, u118, u119, u120, u121, u122, u123, u124, u125, u126, u127, u128, u129, u130, u131, u132, u133, u134, u135, u136, u137, u138, u139, u140, u141, u142, u143, u144, u145, u146, u147, u148, u149, u150, u151, u152, u153, u154, u155, u156, u157, u158, u159, u160, u161, u162, u163, u164, u165, u166, u167, u168, u169, u170, u171, u172, u173, u174, u175, u176, u177, u178, u179, u180, u181, u182, u183, u184, u185, u186, u187, u188, u189, u190, u191, u192, u193, u194, u195, u196, u197, u198, u199, u200, u201, u202, u203, u204, u205, u206, u207, u208, u209, u210, u211, u212, u213, u214, u215, u216, u217, u218, u219, u220, u221, u222, u223, u224, u225, u226, u227, u228, u229, u230, u231, u232, u233, u234, u235, u236, u237, u238, u239, u240, u241, u242, u243, u244, u245, u246, u247, u248, u249, u250, u251, u252, u253, u254, u255, u256, u257, u258, u259, u260, u261, u262, u263, u264, u265, u266, u267, u268, u269, u270, u271, u272, u273, u274, u275, u276, u277, u278, u279, u280, u281, u282, u283, u284, u285, u286, u287, u288, u289, u290, u291, u292, u293, u294, u295, u296, u297, u298, u299, u300, u301, u302, u303, u304, u305, u306, u307, u308, u309, u310, u311, u312, u313, u314, u315, u316, u317, u318, u319, u320, u321, u322, u323, u324, u325, u326, u327, u328, u329, u330, u331, u332, u333, u334, u335, u336, u337, u338, u339, u340, u341, u342, u343, u344, u345, u346, u347, u348, u349, u350, u351, u352, u353, u354, u355, u356, u357, u358, u359, u360, u361, u362, u363, u364, u365, u366, u367, u368, u369, u370, u371, u372, u373, u374], []⟩ wr) Q0) ⟨#[u0, u1, .int .u64 (EP : Int), u3, .slice ao xs.length cap, undef, undef, undef, undef, undef, u10, .pointer (some ⟨P0, 0, none⟩), .pointer (some ⟨p, 0, none⟩), u13, .pointer (some ⟨q, 0, none⟩), .int .i64 k, u16, u17, u18, u19, u20, u21, u22, u23, u24, u25, u26, u27, u28, u29, u30, u31, u32, u33, u34, u35, u36, u37, u38, u39, u40, u41, u42, u43, u44, u45, u46, u47, u48, u49, u50, u51, u52, u53, u54, u55, u56, u57, u58, u59, u60, u61, u62, u63, u64, u65, u66, u67, u68, u69, u70, u71, u72, u73, u74, u75, u76, u77, u78, u79, u80, u81, u82, u83, u84, u85, u86, u87, u88, u89, u90, u91, u92, u93, u94, u95, u96, u97, u98, u99, u100, u101, u102, u103, u104, u105, u106, u107, u108, u109, u110, u111, u112, u113, u114, u115, u116, u117, u118, u119, u120, u121, u122, u123, u124, u125, u126, u127, u128, u129, u130, u131, u132, u133, u134, u135, u136, u137, u138, u139, u140, u141, u142, u143, u144, u145, u146, u147, u148, u149, u150, u151, u152, u153, u154, u155, u156, u157, u158, u159, u160, u161, u162, u163, u164, u165, u166, u167, u168, u169, u170, u171, u172, u173, u174, u175, u176, u177, u178, u179, u180, u181, u182, u183, u184, u185, u186, u187, u188, u189, u190, u191, u192, u193, u194, u195, u196, u197, u198, u199, u200, u201, u202, u203, u204, u205, u206, u207, u208, u209, u210, u211, u212, u213, u214, u215, u216, u217, u218, u219, u220, u221, u222, u223, u224, u225, u226, u227, u228, u229, u230, u231, u232, u233, u234, u235, u236, u237, u238, u239, u240, u241, u242, u243, u244, u245, u246, u247, u248, u249, u250, u251, u252, u253, u254, u255, u256, u257, u258, u259, u260, u261, u262, u263, u264, u265, u266, u267, u268, u269, u270, u271, u272, u273, u274, u275, u276, u277, u278, u279, u280, u281, u282, u283, u284, u285, u286, u287, u288, u289, u290, u291, u292, u293, u294, u295, u296, u297, u298, u299, u300, u301, u302, u303, u304, u305, u306, u307, u308, u309, u310, u311, u312, u313, u314, u315, u316, u317, u318, u319, u320, u321, u322, u323, u324, u325, u326, u327, u328, u329, u330, u331, u332, u333, u334, u335, u336, u337, u338, u339, u340, u341, u342, u343, u344, u345, u346, u347, u348, u349, u350, u351, u352, u353, u354, u355, u356, u357, u358, u359, u360, u361, u362, u363, u364, u365, u366, u367, u368, u369, u370, u371, u372, u373, u374], []⟩ wr := by
  conv => arg 2; whnf
  obtain ⟨b, o, rfl, hok, hrg⟩ := HR.out k hlt
  obtain ⟨y, hy⟩ : ∃ y, y = xs[k] := ⟨_, rfl⟩
  rw [← hy] at hok hrg hkd hin
  have HOK : Hid (OeOk w1 y) := hok
  have hk0 : (0 : Int) ≤ (k : Int) := by omega
  have hkI : (k : Int) < (xs.length : Int) := by omega
  have hkw : IntKind.i64.wrap ((k : Int) + 1) = ((k + 1 : Nat) : Int) := by rw [IntKind.wrap_i64]; omega
  have hLD := rangeAt_below hrg HB.out
  obtain ⟨wa, hwa⟩ : ∃ wa, wa = wr.alloc (.cells y.c tOe) := ⟨_, rfl⟩
  have hba : Below wr.heap.size wr wa := by rw [hwa]; exact alw (Below.refl _ _) _
  have hbxa : wa.heap[wr.heap.size]? = some (.cells y.c tOe (0, 0)) := by rw [hwa]; exact heap_alloc_new wr _
  have hoc := oeCells hbxa
  have hHa : Exb wa (fun b => b < w1.heap.size ∨ b = wr.heap.size) p ms mn pw mw V q v s s := by rw [hwa]; exact HE.out.box _
  have HEa : Hid _ := hHa
  have HBa : Hid (Below w1.heap.size w1 wa) := below_next HB.out hba
  have HXa : Hid _ := hbxa
  have HWA : Hid (wa = _) := hwa
  have HSZa : Hid (w1.heap.size ≤ wr.heap.size ∧ wr.heap.size < wa.heap.size) := ⟨HB.out.size, (Array.getElem?_eq_some_iff.1 hbxa).1⟩
  rw [hwa] at hoc
  clear hy hok hrg hwa hba hbxa hHa
  have k1 : (y.kd == 1) = false := by simp [hkd]
  have k2 : (y.kd == 2) = false := by simp [hkd]
  have k3 : (y.kd == 3) = false := by simp [hkd]
  have k4 : (y.kd == 4) = true := by simp [hkd]
  clear hkd
  go_upto_region 52 with (first
    | (refine wpList_load_g (by rfl) tOe _ rfl b (o + k * 15) (by rfl) y.c.toList _ hLD Tryz.underlying43 rfl infoOe ?_))
  rw [← HWA.out] at hoc ⊢
  clear hLD
  obtain ⟨x, hx, hxk⟩ := List.mem_map.1 hin
  have HX : Hid _ := hx
  have HOF : Hid _ := bof_in HEa.out.b x hx
  rw [hxk] at HOF
  have HXK : Hid _ := hxk
  clear hin hx hxk
  go_wp2_with fail
  refine Calls.mono HOF.out ?_
  rintro e9 w2 ⟨rfl, hb2⟩
  obtain ⟨w3, hw3⟩ : ∃ w3, w3 = w2.alloc (.cells #[.int .u64 (x.n : Int), .int .i64 x.k.1, .int .u64 (x.k.2 : Int), .int .u64 (x.ov : Int)] tBs) := ⟨_, rfl⟩
  have hE3 := (HEa.out.below hb2).box (.cells #[.int .u64 (x.n : Int), .int .i64 x.k.1, .int .u64 (x.k.2 : Int), .int .u64 (x.ov : Int)] tBs)
  rw [← hw3] at hE3
  have hbx3 : w3.heap[w2.heap.size]? = some (.cells #[.int .u64 (x.n : Int), .int .i64 x.k.1, .int .u64 (x.k.2 : Int), .int .u64 (x.ov : Int)] tBs (0, 0)) := by rw [hw3]; exact heap_alloc_new w2 _
  have hb3 : Below w2.heap.size w2 w3 := by rw [hw3]; exact alw (Below.refl _ _) _
  have hxa3 := (hb3.block _ (Nat.lt_of_lt_of_le HSZa.out.2 hb2.size)).trans ((hb2.block _ HSZa.out.2).trans HXa.out)
  have hoc3 := oeCells hxa3
  rw [hw3] at hoc3
  have HE3 : Hid _ := hE3
  have HB3 : Hid (Below w1.heap.size w1 w3) := below_next HBa.out (below_next hb2 hb3)
  have HX3 : Hid _ := hbx3
  have HW3 : Hid (w3 = _) := hw3
  clear hb2 hw3 hE3 hbx3 hb3 hxa3 hoc
  go_wp2_with fail
  rw [← HW3.out] at hoc3 ⊢
  clear hoc3
  have HSP : Hid _ := xstop_in HE3.out.a x HX.out
  rw [HXK.out] at HSP
  refine Calls.mono HSP.out ?_
  rintro e9 w4 ⟨rfl, V2, hst, hstp⟩
  have hp4 := HE3.out.prog hst hstp
  have hbx4 := (hp4.2.block w2.heap.size (Array.getElem?_eq_some_iff.1 HX3.out).1 (fun h9 => h9 (.inr rfl))).trans HX3.out
  have hc4 : w4.cell? ⟨w2.heap.size, 0, none⟩ = some (.int .u64 (x.n : Int)) := by rw [cell_of_row _ _ _ _ _ _ hbx4]; rfl
  have HB4 : Hid (Below w1.heap.size w1 w4) := chg_below HB3.out (hp4.2.mono (fun b hb hh => hb (.inl (.inl hh))))
  have HE4 : Hid _ := hp4.1
  have HOU : Hid _ := bout_t hp4.1.b x.n
  clear hst hstp hp4 hbx4
  go_wp2_with fail
  refine Calls.mono HOU.out ?_
  rintro e9 w5 ⟨⟨u9, rfl⟩, v2, hbk, hbs⟩
  have hp5 := HE4.out.doc hbk hbs
  have HE5 : Hid (Exb w5 _ p ms mn pw mw V2 q v2 { s with L := dropX s.L x.n } { s with L := dropX s.L x.n }) := hp5.1.less (H' := fun b => b < w1.heap.size ∨ b = wr.heap.size) (fun b hb => .inl hb) (.inl hlt0)
  have HB5' : Hid (Below w1.heap.size w1 w5) := chg_below HB4.out (hp5.2.mono (fun b hb hh => hb (.inl (.inl hh))))
  clear hbk hbs hp5 hc4
  obtain ⟨s9, hs9⟩ : ∃ s9 : Xs, s9 = { s with L := dropX s.L x.n } := ⟨_, rfl⟩
  have HSB9 : Hid (s9.beg ≤ k + 1) := by unfold Hid; rw [hs9]; exact Nat.le_trans HSB.out (Nat.le_succ _)
  have HSC9 : Hid (s9.mtu = M ∧ s9.ack = A ∧ s9.ep = EP) := by unfold Hid; rw [hs9]; exact HSC.out
  rw [← hs9] at HE5
  clear hs9
  obtain ⟨n9, hn9⟩ : ∃ n9, n9 = (s9).L.length := ⟨_, rfl⟩
  have hn64 : n9 ≤ 64 := by rw [hn9]; exact HE5.out.a.inv.len
  obtain ⟨a9, cp9, hv9, -, -, -, hrd9⟩ := OwnG.val HE5.out.b.row
  have hv9' : v2 = .slice a9 n9 cp9 := by rw [hn9]; exact hv9
  have hcs9 : ∀ u, Below w5.heap.size w5 u → u.cell? ⟨q, 0, none⟩ = some (.slice a9 n9 cp9) := fun u hu => by rw [← hv9']; exact (HE5.out.b.below hu).cell 0
  have hc9a := hcs9 w5 (Below.refl _ _)
  have HN9 : Hid _ := hn9
  have HR9 : Hid (RdG KBs w5 a9 (s9).L) := hrd9
  clear hn9 hv9 hv9' hrd9
  go_wp2
  go_loopw [37, 38] (fun u j wv => ∃ i : Nat, i ≤ n9 ∧ j = .int .i64 (i : Int) ∧ OwnG KKy wv w5.heap.size u (((s9).L.take i).map Xe.k) ∧ Below w5.heap.size w5 wv) (fun _ j _ => n9 - (intOf j).toNat)
  case atStart => exact ⟨0, Nat.zero_le _, rfl, World.ownsRow_nil _ _ _ _, Below.refl _ _⟩
  case round =>
    rename World => wv
    obtain ⟨i, hin, rfl, hown, hbv⟩ := hrel
    have hiw : IntKind.i64.wrap ((i : Int) + 1) = ((i + 1 : Nat) : Int) := by rw [IntKind.wrap_i64]; omega
    have hc9 := hcs9 wv hbv
    by_cases hlt9 : i < n9
    · have hlti : (i : Int) < (n9 : Int) := by omega
      have hi0 : (0 : Int) ≤ (i : Int) := by omega
      have hi1 : i < (s9).L.length := by rw [← HN9.out]; exact hlt9
      obtain ⟨b9, o9, rfl, r1, -⟩ := RdG.below HR9.out hbv i hi1
      obtain ⟨x, hx⟩ : ∃ x : Xe, x = (s9).L[i] := ⟨_, rfl⟩
      have g1 := r1 1 (.int .i64 x.k.1) (by rw [hx]; rfl)
      have g2 : wv.cell? ⟨b9, o9 + i * 4 + 1 + 1, none⟩ = some (.int .u64 (x.k.2 : Int)) := r1 2 (.int .u64 (x.k.2 : Int)) (by rw [hx]; rfl)
      have HT : Hid (((s9).L.take i).map Xe.k ++ [x.k] = ((s9).L.take (i + 1)).map Xe.k) := by unfold Hid; rw [List.take_succ_eq_append_getElem hi1, ← hx]; simp
      have HSZ : Hid (w5.heap.size ≤ wv.heap.size) := hbv.size
      have HO : Hid (OwnG KKy (wv.alloc (.cells #[.int .i64 x.k.1, .int .u64 (x.k.2 : Int)] tFk)) w5.heap.size u37 (((s9).L.take i).map Xe.k)) := hown.below (alw (Below.refl _ _) _)
      have HL9 : Hid (∀ b, u37.ownBlock = some b → w5.heap.size ≤ b) := fun b hb => (hown.lt' hb).1
      obtain ⟨m9, hm9⟩ : ∃ m9, m9 = (((s9).L.take i).map Xe.k).length := ⟨_, rfl⟩
      have hm64 : m9 ≤ 64 := by rw [hm9, List.length_map, List.length_take]; omega
      have HM9 : Hid _ := hm9
      have HBV : Hid _ := hbv
      clear r1 hx hi1 hown hbv hm9 hcs9
      go_wp2_with (at_builtin; refine wp_appG1 (K := KKy) rfl _ _ rfl w5.heap.size u37 (((s9).L.take i).map Xe.k) x.k m9 HM9.out ⟨wv.heap.size, 0, none⟩ 1 rfl HO.out rfl (rdF_new wv x.k _ rfl) (by show (m9 + 1) * 16 ≤ _; omega) (by simp only [maxLen]; omega) (by have := HSZ.out; simp; omega) ?_; intro g7 c7 w7 hown7 hg7 hlie7; rw [HT.out] at hown7; have HO7 : Hid _ := hown7; have HG7 : Hid _ := hg7; clear hown7 hg7 hlie7)
      go_roundw
      case rel => exact ⟨i + 1, hlt9, by go_num, HO7.out, (alw HBV.out _).grown HG7.out (by have := HSZ.out; simp; omega) (fun j hj => HL9.out j hj)⟩
      case measure => simp [intOf]; omega
    · have hlti : ¬ (i : Int) < (n9 : Int) := by omega
      have htk : (s9).L.take i = (s9).L := List.take_of_length_le (by rw [← HN9.out]; omega)
      rw [htk] at hown
      have HEv : Hid _ := HE5.out.below hbv
      have HOV : Hid _ := hown
      obtain ⟨n8, hn8⟩ : ∃ n8, n8 = ((s9).L.map Xe.k).length := ⟨_, rfl⟩
      have hn864 : n8 ≤ 64 := by rw [hn8, List.length_map, ← HN9.out]; exact hn64
      obtain ⟨ab, cb, hvb, -, -, -, hrb⟩ := hown.val
      rw [← hn8] at hvb
      subst hvb
      have HN8 : Hid _ := hn8
      have HRB : Hid (RdG KKy wv ab ((s9).L.map Xe.k)) := hrb
      have HBV : Hid _ := hbv
      clear htk hown hbv hcs9 hn8 hrb
      go_wp2_with (first
        | (go_at_call 18; refine Calls.mono (xbusy_t HEv.out.a) ?_; rintro e9 w5 ⟨va, rfl, howna, hb5⟩; obtain ⟨aa, ca, hva, -, -, -, hra⟩ := howna.val; rw [← HN8.out] at hva; subst hva; have HRA : Hid (RdG KKy w5 aa ((s9).L.map Xe.k)) := hra; have HB5 : Hid _ := hb5; clear howna hb5 hra)
        | (go_at_call 15; refine Calls.mono (sameKeys_t aa ab n8 ca cb ((s9).L.map Xe.k) HN8.out (by omega) HRA.out (RdG.below HRB.out HB5.out)) ?_; rintro e9 w7 ⟨rfl, hb7⟩; have HB7 : Hid _ := hb7; clear hb7))
      refine ⟨?_, ?_⟩
      · unfold WIx
        iterate 365 (apply Exists.intro)
        have h9 := HEv.out.below (below_next HB5.out HB7.out)
        exact ⟨⟨k + 1, V2, v2, s9, by omega, by go_num, HSB9.out, HSC9.out, h9.less (fun b hb => .inl hb) (Nat.lt_of_lt_of_le (Nat.lt_of_le_of_lt (Nat.zero_le _) hlt0) (Nat.le_refl _)), HB5'.out.trans ((below_next HBV.out (below_next HB5.out HB7.out)).mono HB5'.out.size)⟩, rfl⟩
      · simp [Wmux, intOf]; omega
end Go.Proofs.YtiedgcanndgmoaaGreatDoor
