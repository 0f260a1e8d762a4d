import Derived.Test.YtdoikcolkbjnfaaGreatCA
namespace Go.Proofs.YtdoikcolkbjnfaaGreat
set_option linter.unusedVariables false
set_option linter.unusedSimpArgs false
open Go.RowKit
abbrev tBx : TypeId := 155
abbrev tSh : TypeId := 152
abbrev tRb : TypeId := 166
abbrev iv (n : Nat) : Value := .int .i64 (n : Int)
/-- the cells of a box -/
abbrev bxC (N l z : Nat) (V : List Dc) : List Value := iv N :: iv l :: iv z :: V.map Dc.v
/-- a box of the program in memory -/
structure Bx (w : World) (p : Nat) (V : List Dc) (S : List Seg) : Prop where
  hp : w.heap[p]? = some (.cells (bxC S.length (lenS S) (lastS S) V).toArray tBx (0, 0))
  len : V.length = 64
  n0 : 1 ≤ S.length
  n1 : S.length ≤ 64
  fit : fitS S = true
  els : ∀ (i : Nat) d xs, V[i]? = some d → S[i]? = some xs → ByV w d xs ∧ (xs = [] → d = Dc.z) ∧ xs.length ≤ 1024
  far : ∀ (i : Nat) d, V[i]? = some d → S.length ≤ i → d = Dc.z
def footB (p : Nat) (V : List Dc) (b : Nat) : Prop := b = p ∨ ∃ d ∈ V, ∃ ad, d.a = some ad ∧ ad.block = b
theorem fit_uni {S : List Seg} (h : fitS S = true) : uniD (lenS S) (S.take (S.length - 1)) = true := by
  unfold fitS at h
  rw [Bool.and_eq_true] at h
  exact h.1
theorem lenS_le {S : List Seg} (h : ∀ xs ∈ S, xs.length ≤ 1024) : lenS S ≤ 1024 := by
  by_cases h0 : lenS S = 0
  · omega
  · obtain ⟨x, hx, e⟩ := frL_mem (D := S.take (S.length - 1)) h0
    have := h x (List.mem_of_mem_take hx)
    have e' : x.length = lenS S := e
    omega
theorem lastS_le {S : List Seg} (h : ∀ xs ∈ S, xs.length ≤ 1024) : lastS S ≤ 1024 := by
  unfold lastS
  cases hx : S[S.length - 1]? with
  | none => simp
  | some x => exact h x (List.mem_of_getElem? hx)
section
variable {w w' : World} {p : Nat} {V : List Dc} {S : List Seg}
theorem Bx.small (h : Bx w p V S) : ∀ xs ∈ S, xs.length ≤ 1024 := fun xs hx => by
  obtain ⟨i, hi, rfl⟩ := List.mem_iff_getElem.1 hx
  have hV : i < V.length := by rw [h.len]; have := h.n1; omega
  exact (h.els i V[i] S[i] (List.getElem?_eq_getElem hV) (List.getElem?_eq_getElem hi)).2.2
theorem Bx.mem (h : Bx w p V S) {d : Dc} (hd : d ∈ V) : ∃ xs, ByV w d xs := by
  obtain ⟨i, hi, rfl⟩ := List.mem_iff_getElem.1 hd
  by_cases hS : i < S.length
  · exact ⟨_, (h.els i V[i] S[i] (List.getElem?_eq_getElem hi) (List.getElem?_eq_getElem hS)).1⟩
  · rw [h.far i V[i] (List.getElem?_eq_getElem hi) (by omega)]
    exact ⟨[], ByV.none w⟩
theorem Bx.lt (h : Bx w p V S) {b : Nat} (hb : footB p V b) : b < w.heap.size := by
  rcases hb with rfl | ⟨d, hd, ad, ha, rfl⟩
  · exact (Array.getElem?_eq_some_iff.1 h.hp).1
  · obtain ⟨xs, hx⟩ := h.mem hd
    exact hx.lt ha
theorem Bx.kept (h : Bx w p V S) (hk : ∀ b, footB p V b → w'.heap[b]? = w.heap[b]?) : Bx w' p V S :=
  ⟨(hk p (.inl rfl)).trans h.hp, h.len, h.n0, h.n1, h.fit, fun i d xs hd hx => by
    obtain ⟨h1, h2, h3⟩ := h.els i d xs hd hx
    exact ⟨h1.kept (fun ad ha => hk _ (.inr ⟨d, List.mem_of_getElem? hd, ad, ha, rfl⟩)), h2, h3⟩, h.far⟩
theorem Bx.below (h : Bx w p V S) (hb : Below w.heap.size w w') : Bx w' p V S := h.kept (fun b hf => hb.block b (h.lt hf))
theorem Bx.c0 (h : Bx w p V S) : w.cell? ⟨p, 0, none⟩ = some (iv S.length) := by rw [cell_of_row _ _ _ _ _ _ h.hp]; rfl
theorem Bx.c1 (h : Bx w p V S) : w.cell? ⟨p, 1, none⟩ = some (iv (lenS S)) := by rw [cell_of_row _ _ _ _ _ _ h.hp]; rfl
theorem Bx.c2 (h : Bx w p V S) : w.cell? ⟨p, 2, none⟩ = some (iv (lastS S)) := by rw [cell_of_row _ _ _ _ _ _ h.hp]; rfl
theorem Bx.cs (h : Bx w p V S) (k : Nat) (d : Dc) (hd : V[k]? = some d) : w.cell? ⟨p, 3 + k, none⟩ = some d.v := by
  rw [cell_of_row _ _ _ _ _ _ h.hp, show 3 + k = k + 1 + 1 + 1 by omega]
  simp [hd]
theorem Bx.fz (h : Bx w p V S) (i : Nat) : w.frozen? ⟨p, i, none⟩ = false := by simp [World.frozen?, h.hp]
theorem Bx.rg (h : Bx w p V S) : w.rangeAt p 0 [iv S.length, iv (lenS S), iv (lastS S)] := fun j v hj => by
  match j with
  | 0 => simp at hj; subst hj; exact h.c0
  | 1 => simp at hj; subst hj; exact h.c1
  | 2 => simp at hj; subst hj; exact h.c2
  | j + 3 => simp at hj
theorem Bx.at_ (h : Bx w p V S) {k : Nat} (hk : k < S.length) : ∃ d xs, V[k]? = some d ∧ S[k]? = some xs ∧ w.cell? ⟨p, 3 + k, none⟩ = some d.v ∧ ByV w d xs ∧ (xs = [] → d = Dc.z) ∧ xs.length ≤ 1024 := by
  have hV : k < V.length := by rw [h.len]; have := h.n1; omega
  have h1 := List.getElem?_eq_getElem hV
  have h2 := List.getElem?_eq_getElem hk
  exact ⟨_, _, h1, h2, h.cs k _ h1, h.els k _ _ h1 h2⟩
/-- no bytes of a box lie in its own block -/
theorem Bx.pe (h : Bx w p V S) {e : Dc} {ad : Addr} {xs : List UInt8} (hx : ByV w e xs) (ha : e.a = some ad) : ad.block ≠ p := by
  obtain ⟨cur, fr, h1⟩ := hx.ty ad ha
  intro e2
  rw [e2] at h1
  exact absurd (ty_of h.hp h1) (by decide)
end
/-- no box, one that nobody made, or a box; F has its blocks -/
structure PBx (w : World) (pv : Option Addr) (St : Option (List Seg)) (F : Nat → Prop) : Prop where
  lt : ∀ b, F b → b < w.heap.size
  ex : (St = none ∧ (pv = none ∨ ∃ p, pv = some ⟨p, 0, none⟩ ∧ w.cell? ⟨p, 0, none⟩ = some (.int .i64 0) ∧ F p)) ∨ ∃ S p V, St = some S ∧ pv = some ⟨p, 0, none⟩ ∧ Bx w p V S ∧ ∀ b, footB p V b → F b
theorem PBx.kept {w w' : World} {pv : Option Addr} {St : Option (List Seg)} {F : Nat → Prop} (h : PBx w pv St F) (hs : w.heap.size ≤ w'.heap.size) (hk : ∀ b, F b → w'.heap[b]? = w.heap[b]?) : PBx w' pv St F := by
  refine ⟨fun b hb => Nat.lt_of_lt_of_le (h.lt b hb) hs, ?_⟩
  rcases h.ex with ⟨h1, h2⟩ | ⟨S, p, V, h1, h2, h3, h4⟩
  · refine .inl ⟨h1, ?_⟩
    rcases h2 with h2 | ⟨p, h2, h3, h4⟩
    · exact .inl h2
    · have h9 : w'.cell? ⟨p, 0, none⟩ = w.cell? ⟨p, 0, none⟩ := World.cell?_of_block (hk p h4)
      exact .inr ⟨p, h2, h9.trans h3, h4⟩
  · exact .inr ⟨S, p, V, h1, h2, h3.kept (fun b hb => hk b (h4 b hb)), h4⟩
theorem PBx.below {w w' : World} {pv : Option Addr} {St : Option (List Seg)} {F : Nat → Prop} (h : PBx w pv St F) (hb : Below w.heap.size w w') : PBx w' pv St F := h.kept hb.size (fun b hf => hb.block b (h.lt b hf))
/-- what nobody made -/
def B0 (w : World) (q : Option Addr) : Prop := q = none ∨ ∃ p, q = some ⟨p, 0, none⟩ ∧ w.cell? ⟨p, 0, none⟩ = some (.int .i64 0)
section
variable {w w' : World} {p : Nat} {V : List Dc} {S : List Seg}
set_option maxRecDepth 20000 in
set_option maxHeartbeats 1600000 in
theorem made_no {q : Option Addr} (h : B0 w q) : Calls Tryz.prog 82 #[.pointer q] w fun e w' => e = .returned (.bool false) ∧ w' = w := by
  rcases h with rfl | ⟨p, rfl, hc⟩
  · go_enter Tryz.func82, Tryz.ntmps82
    go_wp2
    go_ret
    exact ⟨rfl, rfl⟩
  · go_enter Tryz.func82, Tryz.ntmps82
    go_wp2
    go_ret
    exact ⟨rfl, rfl⟩
set_option maxRecDepth 20000 in
set_option maxHeartbeats 1600000 in
theorem made_t (h : Bx w p V S) : Calls Tryz.prog 82 #[.pointer (some ⟨p, 0, none⟩)] w fun e w' => e = .returned (.bool true) ∧ w' = w := by
  have hc := h.c0
  have hr := h.n0
  generalize S.length = N at *
  have hr0 : (0 : Int) < (N : Int) := by omega
  have hr2 : decide (0 < N) = true := decide_eq_true (by omega)
  clear h
  go_enter Tryz.func82, Tryz.ntmps82
  go_wp2
  go_ret
  first | exact ⟨rfl, rfl⟩ | (rw [hr2]; exact ⟨rfl, rfl⟩)
abbrev shV (N l z : Nat) : Value := .agg #[iv N, iv l, iv z]
def numB (N : Nat) (i : Int) : Bool := decide (0 ≤ i ∧ i < (N : Int))
set_option maxRecDepth 20000 in
set_option maxHeartbeats 1600000 in
theorem numbers_t (N l z : Nat) (i : Int) : Calls Tryz.prog 83 #[shV N l z, .int .i64 i] w fun e w' => e = .returned (.bool (numB N i)) ∧ Below w.heap.size w w' := by
  by_cases h0 : 0 ≤ i
  · by_cases h1 : i < (N : Int)
    · have HD : Hid (numB N i = true) := decide_eq_true ⟨h0, h1⟩
      go_enter Tryz.func83, Tryz.ntmps83
      go_wp2
      go_ret
      rw [HD.out]
      exact ⟨by simp [h1], al (Below.refl _ _) _⟩
    · have HD : Hid (numB N i = false) := decide_eq_false (fun h => h1 h.2)
      go_enter Tryz.func83, Tryz.ntmps83
      go_wp2
      go_ret
      rw [HD.out]
      exact ⟨by simp [h1], al (Below.refl _ _) _⟩
  · have HD : Hid (numB N i = false) := decide_eq_false (fun h => h0 h.1)
    go_enter Tryz.func83, Tryz.ntmps83
    go_wp2
    go_ret
    rw [HD.out]
    exact ⟨rfl, al (Below.refl _ _) _⟩
def lstN (N l z : Nat) : Nat := if l = 0 then N * z else (N - 1) * l + max z 1
theorem mul_le' {a b c d : Nat} (h : a ≤ c) (k : b ≤ d) : a * b ≤ c * d := Nat.mul_le_mul h k
set_option maxRecDepth 20000 in
set_option maxHeartbeats 1600000 in
theorem least_s (N l z : Nat) (hN : 1 ≤ N) (hN1 : N ≤ 64) (hl : l ≤ 1024) (hz : z ≤ 1024) : Calls Tryz.prog 135 #[shV N l z] w fun e w' => e = .returned (iv (lstN N l z)) ∧ Below w.heap.size w w' := by
  by_cases h0 : l = 0
  · subst h0
    have HD : Hid (lstN N 0 z = N * z) := if_pos rfl
    have hm : N * z ≤ 64 * 1024 := mul_le' hN1 hz
    have hw : IntKind.i64.wrap ((N : Int) * (z : Int)) = ((N * z : Nat) : Int) := by rw [IntKind.wrap_i64]; push_cast at hm ⊢; omega
    go_enter Tryz.func135, Tryz.ntmps135
    go_wp2
    go_ret
    rw [HD.out]
    exact ⟨by first | rfl | (rw [hw]), al (Below.refl _ _) _⟩
  · have HD : Hid (lstN N l z = (N - 1) * l + max z 1) := if_neg h0
    obtain ⟨M, hM⟩ : ∃ M, M = (N - 1) * l := ⟨_, rfl⟩
    have hm : M ≤ 64 * 1024 := by rw [hM]; exact mul_le' (by omega) hl
    have hw0 : IntKind.i64.wrap ((N : Int) - 1) = ((N - 1 : Nat) : Int) := by rw [IntKind.wrap_i64]; omega
    have hw : IntKind.i64.wrap (((N - 1 : Nat) : Int) * (l : Int)) = (M : Int) := by rw [hM, ← Int.natCast_mul, IntKind.wrap_i64]; rw [← hM]; omega
    have hl0 : ((l : Int) == 0) = false := by simp; omega
    have HE : Hid ((N - 1) * l + max z 1 = M + max z 1) := by unfold Hid; rw [hM]
    have hw3 : IntKind.i64.wrap ((M : Int) + 1) = ((M + 1 : Nat) : Int) := by rw [IntKind.wrap_i64]; omega
    have hw4 : IntKind.i64.wrap ((M : Int) + (z : Int)) = ((M + z : Nat) : Int) := by rw [IntKind.wrap_i64]; omega
    clear hM h0
    go_enter Tryz.func135, Tryz.ntmps135
    go_wp2
    all_goals
      go_ret
      rw [HD.out, HE.out]
      refine ⟨?_, al (Below.refl _ _) _⟩
      first
        | (rw [show M + max z 1 = M + 1 by omega]; rfl)
        | (rw [show M + max z 1 = M + z by omega]; rfl)
end
end Go.Proofs.YtdoikcolkbjnfaaGreat
namespace Go.Proofs.YtdoikcolkbjnfaaGreat
set_option linter.unusedVariables false
set_option linter.unusedSimpArgs false
open Go.RowKit
section
variable {w w' : World} {p : Nat} {V : List Dc} {S : List Seg}
theorem capB0 (N z : Nat) : capB N 0 z = decide (lstN N 0 z ≤ 1024) := rfl
theorem capB1 (N l z : Nat) (h : l ≠ 0) : capB N l z = (decide (z ≤ l) && decide (lstN N l z ≤ 1024)) := by
  unfold capB lstN
  rw [if_neg h, if_neg h, Nat.max_comm]
set_option maxRecDepth 20000 in
set_option maxHeartbeats 1600000 in
theorem fits_t (N l z : Nat) (hN : 1 ≤ N) (hN1 : N ≤ 64) (hl : l ≤ 1024) (hz : z ≤ 1024) : Calls Tryz.prog 102 #[shV N l z] w fun e w' => e = .returned (.bool (capB N l z)) ∧ Below w.heap.size w w' := by
  have HLE : Hid (∀ u : World, Calls _ _ _ u _) := fun u => least_s (w := u) N l z hN hN1 hl hz
  obtain ⟨T, hT⟩ : ∃ T, T = lstN N l z := ⟨_, rfl⟩
  rw [← hT] at HLE
  by_cases h0 : l = 0
  · subst h0
    have HC : Hid (capB N 0 z = decide (T ≤ 1024)) := by unfold Hid; rw [capB0, hT]
    clear hT
    have hd : decide ((T : Int) ≤ 1024) = decide (T ≤ 1024) := by simp; omega
    go_enter Tryz.func102, Tryz.ntmps102
    go_wp2_with (go_at_call 135; refine Calls.mono (HLE.out _) ?_; rintro e w1 ⟨rfl, hb1⟩)
    go_ret
    rw [HC.out]
    exact ⟨by first | rfl | exact congrArg (fun b => Ending.returned (Value.bool b)) hd | exact congrArg (fun b => Ending.returned (Value.bool b)) (decide_eq_decide.2 Iff.rfl), below_next (al (Below.refl _ _) _) hb1⟩
  · have hl0 : ((l : Int) == 0) = false := by simp; omega
    have HC : Hid (capB N l z = (decide (z ≤ l) && decide (T ≤ 1024))) := by unfold Hid; rw [capB1 N l z h0, hT]
    clear hT
    by_cases h1 : z ≤ l
    · have h1i : (z : Int) ≤ (l : Int) := by omega
      go_enter Tryz.func102, Tryz.ntmps102
      go_wp2_with (go_at_call 135; refine Calls.mono (HLE.out _) ?_; rintro e w1 ⟨rfl, hb1⟩)
      go_ret
      rw [HC.out, decide_eq_true h1, Bool.true_and]
      have hd : decide ((T : Int) ≤ 1024) = decide (T ≤ 1024) := by simp; omega
      exact ⟨by first | rfl | exact congrArg (fun b => Ending.returned (Value.bool b)) hd | exact congrArg (fun b => Ending.returned (Value.bool b)) (decide_eq_decide.2 Iff.rfl), below_next (al (Below.refl _ _) _) hb1⟩
    · have h1i : ¬ (z : Int) ≤ (l : Int) := by omega
      go_enter Tryz.func102, Tryz.ntmps102
      go_wp2_with (go_at_call 135; refine Calls.mono (HLE.out _) ?_; rintro e w1 ⟨rfl, hb1⟩)
      go_ret
      rw [HC.out, decide_eq_false h1, Bool.false_and]
      exact ⟨rfl, al (Below.refl _ _) _⟩
theorem results_ct {P : Program} {fn : Func} {p u : Tmp} {ty : TypeId} (h : fn.results = #[.cell p ty, .tmp u]) (tmps : Array Value) (w : World) (g : Nat) (t : TypeId) (cs : Array Value) (fr : Nat × Nat) (d : TypeDesc)
    (hp : tmps.getD p undef = .pointer (some ⟨g, 0, none⟩)) (hg : w.heap[g]? = some (.cells cs t fr))
    (hu : P.underlying ty = some d) (hd : (match d with | .struct _ | .array _ _ => true | _ => false) = true) (hi : (P.info? ty).map (·.size) = some cs.size) :
    (results fn tmps).run P w = .ok (.tuple #[.agg cs, tmps.getD u undef]) w := by
  rw [results_cell_tmp h]
  rw [hp]
  simp [asAddr, run_loadVar_row w g t ty cs fr d hg hu hd hi, Result.andThen]
set_option maxRecDepth 20000 in
set_option maxHeartbeats 1600000 in
theorem equal_t (ao : Option Addr) (n cap : Nat) (ys : List UInt8) (hn : n = ys.length) (bo : Option Addr) (m cap' : Nat) (xs : List UInt8) (hm : m = xs.length) (w : World) (hy : Rd w ao ys) (hx : Rd w bo xs) :
    Calls Tryz.prog 101 #[.slice ao n cap, .slice bo m cap'] w fun e w' => e = .returned (.bool (ys == xs)) ∧ w' = w := by
  subst hn hm
  have h1 := conv_rd' hy _ cap rfl
  have h2 := conv_rd' hx _ cap' rfl
  go_enter Tryz.func101, Tryz.ntmps101
  go_wp2
  go_ret
  exact ⟨rfl, rfl⟩
set_option maxRecDepth 20000 in
set_option maxHeartbeats 1600000 in
theorem again_t (ao : Option Addr) (n cap : Nat) (ys : List UInt8) (hn : n = ys.length) (bo : Option Addr) (m cap' : Nat) (xs : List UInt8) (hm : m = xs.length) (w : World) (hy : Rd w ao ys) (hx : Rd w bo xs) :
    Calls Tryz.prog 84 #[.slice ao n cap, .slice bo m cap'] w fun e w' => e = .returned (.int .i64 (if ys = xs then 3 else 120)) ∧ w' = w := by
  have HE : Hid _ := equal_t ao n cap ys hn bo m cap' xs hm w hy hx
  clear hn hm hy hx
  by_cases h : ys = xs
  · have hb : (ys == xs) = true := by simp [h]
    rw [hb] at HE
    rw [if_pos h]
    clear h hb
    go_enter Tryz.func84, Tryz.ntmps84
    go_wp2_with (go_at_call 101; refine Calls.mono HE.out ?_; rintro e w' ⟨rfl, hq⟩; have hq := hq.symm; subst hq)
    go_ret
    exact ⟨rfl, rfl⟩
  · have hb : (ys == xs) = false := by simp [h]
    rw [hb] at HE
    rw [if_neg h]
    clear h hb
    go_enter Tryz.func84, Tryz.ntmps84
    go_wp2_with (go_at_call 101; refine Calls.mono HE.out ?_; rintro e w' ⟨rfl, hq⟩; have hq := hq.symm; subst hq)
    go_ret
    exact ⟨rfl, rfl⟩
set_option maxRecDepth 20000 in
set_option maxHeartbeats 1600000 in
theorem new_no (r : Int) (hr : ¬ (1 ≤ r ∧ r ≤ 64)) : Calls Tryz.prog 64 #[.int .i64 r] w fun e w' => e = .returned (.tuple #[.pointer none, .int .i64 1]) ∧ w' = w := by
  by_cases h1 : r < 1
  · go_enter Tryz.func64, Tryz.ntmps64
    go_wp2
    go_ret2
    exact ⟨rfl, rfl⟩
  · have h2 : 64 < r := by omega
    go_enter Tryz.func64, Tryz.ntmps64
    go_wp2
    go_ret2
    exact ⟨rfl, rfl⟩
theorem lenS_rep (N : Nat) : lenS (List.replicate N []) = 0 := by
  unfold lenS
  rw [frL_zero]
  intro x hx
  have := List.eq_of_mem_replicate (List.mem_of_mem_take hx)
  rw [this]; rfl
theorem lastS_rep (N : Nat) : lastS (List.replicate N []) = 0 := by
  unfold lastS
  rw [List.getElem?_replicate]
  split <;> rfl
theorem fitS_rep (N : Nat) : fitS (List.replicate N []) = true := by
  unfold fitS
  rw [lenS_rep, lastS_rep, Bool.and_eq_true]
  refine ⟨uniD_iff.2 (fun x hx => .inl ?_), by simp [capB]⟩
  have := List.eq_of_mem_replicate (List.mem_of_mem_take hx)
  rw [this]; rfl
def zV : List Dc := List.replicate 64 Dc.z
theorem zV_get {i : Nat} {d : Dc} (h : zV[i]? = some d) : d = Dc.z := by
  unfold zV at h
  rw [List.getElem?_replicate] at h
  split at h
  · cases h; rfl
  · cases h
set_option maxRecDepth 20000 in
set_option maxHeartbeats 1600000 in
theorem new_t (r : Nat) (h0 : 1 ≤ r) (h1 : r ≤ 64) : Calls Tryz.prog 64 #[.int .i64 (r : Int)] w fun e w' => e = .returned (.tuple #[.pointer (some ⟨w.heap.size, 0, none⟩), .int .i64 0]) ∧ Bx w' w.heap.size zV (List.replicate r []) ∧ Below w.heap.size w w' := by
  have h2 : ¬ (r : Int) < 1 := by omega
  have h3 : ¬ 64 < (r : Int) := by omega
  go_enter Tryz.func64, Tryz.ntmps64
  go_wp2
  go_ret2
  refine ⟨rfl, ⟨?_, by simp [zV], by simpa using h0, by simpa using h1, fitS_rep r, fun i d xs hd hx => ?_, fun i d hd _ => ?_⟩, al (Below.refl _ _) _⟩
  · rw [lenS_rep, lastS_rep, List.length_replicate]
    exact heap_alloc_new w _
  · rw [List.getElem?_replicate] at hx
    rw [zV_get hd]
    split at hx
    · cases hx
      exact ⟨ByV.none _, fun _ => rfl, by simp⟩
    · cases hx
  · exact zV_get hd
set_option maxRecDepth 20000 in
set_option maxHeartbeats 1600000 in
theorem count_no {q : Option Addr} (h : B0 w q) : Calls Tryz.prog 65 #[.pointer q] w fun e w' => e = .returned (iv 0) ∧ w' = w := by
  have H : Hid _ := made_no h
  clear h
  go_enter Tryz.func65, Tryz.ntmps65
  go_wp2_with (go_at_call 82; refine Calls.mono H.out ?_; rintro e w' ⟨rfl, hq⟩; have hq := hq.symm; subst hq)
  go_ret
  exact ⟨rfl, rfl⟩
set_option maxRecDepth 20000 in
set_option maxHeartbeats 1600000 in
theorem count_t (h : Bx w p V S) : Calls Tryz.prog 65 #[.pointer (some ⟨p, 0, none⟩)] w fun e w' => e = .returned (iv S.length) ∧ w' = w := by
  have H : Hid _ := made_t h
  have hc := h.c0
  clear h
  go_enter Tryz.func65, Tryz.ntmps65
  go_wp2_with (go_at_call 82; refine Calls.mono H.out ?_; rintro e w' ⟨rfl, hq⟩; have hq := hq.symm; subst hq)
  go_ret
  exact ⟨rfl, rfl⟩
end
end Go.Proofs.YtdoikcolkbjnfaaGreat
