import Derived.Test.YtdoikcolkbjnfaaGreatCI
import Derived.Lib.SmallJoins
import Derived.Test.YtdoikcolkbjnfaaGreatUP
import Derived.Test.YtdoikcolkbjnfaaGreatGEnd
namespace Go.Proofs.YtdoikcolkbjnfaaGreat
set_option linter.unusedVariables false
set_option linter.unusedSimpArgs false
open Go.RowKit
theorem load_rgc (u : World) (b o : Nat) (x y : Int) (h : u.rangeAt b o [.int .i64 x, .int .i64 y]) : (Instr.loadAt 71 (.pointer (some ⟨b, o, none⟩))).run Tryz.prog u = .ok (.agg #[.int .i64 x, .int .i64 y]) u :=
  run_loadAt_mid u b o _ [.int .i64 x, .int .i64 y] _ h Tryz.underlying71 rfl (by rw [(zero_of_info info_rg).2]; rfl)
theorem neq_rgc (u : World) (x y z v : Int) : (binOp .neq 71 (.agg #[.int .i64 x, .int .i64 y]) (.agg #[.int .i64 z, .int .i64 v])).run Tryz.prog u = .ok (.bool (!decide (x = z ∧ y = v))) u := by
  go_simp
  by_cases h1 : x = z <;> by_cases h2 : y = v <;> simp [h1, h2]
section
set_option maxRecDepth 20000
set_option maxHeartbeats 800000
end
section
variable {w w' : World}
end
end Go.Proofs.YtdoikcolkbjnfaaGreat
namespace Go.Proofs.YtdoikcolkbjnfaaGreat
set_option linter.unusedVariables false
set_option linter.unusedSimpArgs false
open Go.RowKit
/-- a row of lists that can be read -/
structure RdL (w : World) (a : Option Addr) (E : List Dc) (T : List Seg) : Prop where
  rd : RdG KL w a E
  len : E.length = T.length
  els : ∀ (i : Nat) d t, E[i]? = some d → T[i]? = some t → ByV w d t
theorem RdL.below {w w' : World} {a : Option Addr} {E : List Dc} {T : List Seg} (h : RdL w a E T) (hb : Below w.heap.size w w') : RdL w' a E T := ⟨h.rd.below hb, h.len, fun i d t hd ht => (h.els i d t hd ht).below hb⟩
theorem RdL.at_ {w : World} {a : Option Addr} {E : List Dc} {T : List Seg} (h : RdL w a E T) {k : Nat} (hk : k < T.length) : ∃ b o d t, a = some ⟨b, o, none⟩ ∧ E[k]? = some d ∧ T[k]? = some t ∧ w.cell? ⟨b, o + k, none⟩ = some d.v ∧ ByV w d t := by
  have hE : k < E.length := by rw [h.len]; exact hk
  have h1 := List.getElem?_eq_getElem hE
  have h2 := List.getElem?_eq_getElem hk
  obtain ⟨b', o', e, h3, -⟩ := h.rd k hE
  have h4 := h3 0 (Dc.v E[k]) rfl
  simp at h4
  exact ⟨b', o', _, _, e, h1, h2, h4, h.els k _ _ h1 h2⟩
section
variable {w w' : World}
end
/-- the document's: no box, or a box; G has its blocks -/
structure RBx (w : World) (qv : Option Addr) (St : Option (List Seg)) (G : Nat → Prop) : Prop where
  lt : ∀ b, G b → b < w.heap.size
  ex : (St = none ∧ qv = none) ∨ ∃ S q g c E, St = some S ∧ qv = some ⟨q, 0, none⟩ ∧ Rx w q (.slice (some ⟨g, 0, none⟩) S.length c) E S ∧ ∀ b, footR q (.slice (some ⟨g, 0, none⟩) S.length c) E b → G b
theorem RBx.kept {w w' : World} {qv : Option Addr} {St : Option (List Seg)} {G : Nat → Prop} (h : RBx w qv St G) (hs : w.heap.size ≤ w'.heap.size) (hk : ∀ b, G b → w'.heap[b]? = w.heap[b]?) : RBx w' qv St G := by
  refine ⟨fun b hb => Nat.lt_of_lt_of_le (h.lt b hb) hs, ?_⟩
  rcases h.ex with h1 | ⟨S, q, g, c, E, h1, h2, h3, h4⟩
  · exact .inl h1
  · exact .inr ⟨S, q, g, c, E, h1, h2, h3.kept (fun b hb => hk b (h4 b hb)), h4⟩
theorem RBx.below {w w' : World} {qv : Option Addr} {St : Option (List Seg)} {G : Nat → Prop} (h : RBx w qv St G) (hb : Below w.heap.size w w') : RBx w' qv St G := h.kept hb.size (fun b hf => hb.block b (h.lt b hf))
section
variable {w w' : World} {pv qv : Option Addr} {St : Option (List Seg)} {F G : Nat → Prop}
theorem PBx.cases (h : PBx w pv St F) : (St = none ∧ B0 w pv) ∨ ∃ S p V, St = some S ∧ pv = some ⟨p, 0, none⟩ ∧ Bx w p V S ∧ ∀ b, footB p V b → F b := by
  rcases h.ex with ⟨h1, h2⟩ | h2
  · refine .inl ⟨h1, ?_⟩
    rcases h2 with h2 | ⟨p, h2, h3, -⟩
    · exact .inl h2
    · exact .inr ⟨p, h2, h3⟩
  · exact .inr h2
theorem pcount (h : PBx w pv St F) : Calls Tryz.prog 65 #[.pointer pv] w fun e w' => e = .returned (iv (cntS St)) ∧ w' = w := by
  rcases h.cases with ⟨rfl, h2⟩ | ⟨S, p, V, rfl, rfl, h3, -⟩
  · exact count_no h2
  · exact count_t h3
theorem qcount (h : RBx w qv St G) : Calls Tryz.prog 76 #[.pointer qv] w fun e w' => e = .returned (iv (cntS St)) ∧ w' = w := by
  rcases h.ex with ⟨rfl, rfl⟩ | ⟨S, q, g, c, E, rfl, rfl, h3, -⟩
  · exact rcount_no
  · exact rcount_t h3
/-- what Whole tells -/
def WhOut (St : Option (List Seg)) (w : World) (e : Ending) (w' : World) : Prop := ∃ u, e = .returned (.tuple #[u, .bool (wholeB St)]) ∧ Own w' w.heap.size u (wholeX St) ∧ Below w.heap.size w w'
theorem pwhole (h : PBx w pv St F) : Calls Tryz.prog 68 #[.pointer pv] w fun e w' => WhOut St w e w' := by
  rcases h.cases with ⟨rfl, h2⟩ | ⟨S, p, V, rfl, rfl, h3, -⟩
  · refine Calls.mono (whole_no h2) ?_
    rintro e w' ⟨rfl, rfl⟩
    exact ⟨_, rfl, World.ownsRow_nil _ _ _ _, Below.refl _ _⟩
  · exact whole_t h3
theorem qwhole (h : RBx w qv St G) : Calls Tryz.prog 78 #[.pointer qv] w fun e w' => WhOut St w e w' := by
  rcases h.ex with ⟨rfl, rfl⟩ | ⟨S, q, g, c, E, rfl, rfl, h3, -⟩
  · refine Calls.mono rwhole_no ?_
    rintro e w' ⟨rfl, rfl⟩
    exact ⟨_, rfl, World.ownsRow_nil _ _ _ _, Below.refl _ _⟩
  · exact rwhole_t h3
theorem pgot (h : PBx w pv St F) : Calls Tryz.prog 69 #[.pointer pv] w fun e w' => GotOut St w e w' := by
  rcases h.cases with ⟨rfl, h2⟩ | ⟨S, p, V, rfl, rfl, h3, -⟩
  · refine Calls.mono (got_no h2) ?_
    rintro e w' ⟨rfl, rfl⟩
    exact ⟨_, [], rfl, OwnR.nil _ _, ⟨Lst.nil, fun i => Iff.rfl⟩, by simp, Below.refl _ _⟩
  · exact got_t h3
theorem qgot (h : RBx w qv St G) : Calls Tryz.prog 79 #[.pointer qv] w fun e w' => GotOut St w e w' := by
  rcases h.ex with ⟨rfl, rfl⟩ | ⟨S, q, g, c, E, rfl, rfl, h3, -⟩
  · refine Calls.mono rgot_no ?_
    rintro e w' ⟨rfl, rfl⟩
    exact ⟨_, [], rfl, OwnR.nil _ _, ⟨Lst.nil, fun i => Iff.rfl⟩, by simp, Below.refl _ _⟩
  · exact rgot_t h3
/-- what a call leaves of a box: its state, its blocks, what has changed -/
structure Lft (R : World → (Nat → Prop) → Prop) (F : Nat → Prop) (w w' : World) : Prop where
  ex : ∃ F', R w' F' ∧ ∀ b, F' b → F b ∨ w.heap.size ≤ b
  chg : Chg F w w'
theorem pput (h : PBx w pv St F) (i : Int) (ao : Option Addr) (n cap : Nat) (xs : Seg) (hn : n = xs.length) (hx : Rd w ao xs) (hnil : ao = none → cap = 0) (hl : n ≤ 140737488355328) :
    Calls Tryz.prog 66 #[.pointer pv, .int .i64 i, .slice ao n cap] w fun e w' => e = .returned (.int .i64 (putE St i xs)) ∧ Lft (fun u F' => PBx u pv (putS St i xs) F') F w w' := by
  rcases h.cases with ⟨rfl, h2⟩ | ⟨S, p, V, rfl, rfl, h3, hF⟩
  · refine Calls.mono (put_no h2 i _) ?_
    rintro e w' ⟨rfl, hw⟩
    have hw := hw.symm
    subst hw
    exact ⟨rfl, ⟨F, h, fun b hb => .inl hb⟩, Chg.refl _ _⟩
  · by_cases hno : i < 0 ∨ (S.length : Int) ≤ i ∨ xs.length = 0 ∨ 1024 < xs.length
    · rw [(putE_no hno).1, (putE_no hno).2]
      refine Calls.mono (put_arg h3 i ao n cap xs hn hno hl) ?_
      rintro e w' ⟨rfl, hb⟩
      exact ⟨rfl, ⟨F, h.below hb, fun b hb => .inl hb⟩, Chg.of_below hb⟩
    · obtain ⟨k, rfl⟩ : ∃ k : Nat, i = (k : Int) := ⟨i.toNat, by omega⟩
      have hk : k < S.length := by omega
      obtain ⟨d, ys, hd, hy, -, -, -, -⟩ := h3.at_ hk
      by_cases hys : ys = []
      · subst hys
        obtain ⟨e1, e2⟩ := putE_free (xs := xs) hk (by omega) (by omega) hy
        rw [e1, e2]
        refine Calls.mono (put_free h3 k hk hy ao n cap xs hn (by omega) (by omega) hx hnil) ?_
        rintro e w' ⟨rfl, V', h4, h5, h6⟩
        refine ⟨rfl, ⟨fun b => footB p V' b, ⟨fun b hb => h4.lt hb, .inr ⟨_, p, V', rfl, rfl, h4, fun b hb => hb⟩⟩, fun b hb => (h6 b hb).imp (hF b) id⟩, h5.mono (fun b hb => hF b (.inl hb))⟩
      · obtain ⟨e1, e2⟩ := putE_at (xs := xs) hk (by omega) (by omega) hy hys
        rw [e1, e2]
        refine Calls.mono (put_there h3 k hk d ys hd hy (List.length_pos_iff.2 hys) ao n cap xs hn (by omega) (by omega) hx) ?_
        rintro e w' ⟨rfl, hb⟩
        exact ⟨rfl, ⟨F, h.below hb, fun b hb => .inl hb⟩, Chg.of_below hb⟩
theorem qput (h : RBx w qv St G) (i : Int) (ao : Option Addr) (n cap : Nat) (xs : Seg) (hn : n = xs.length) (hx : Rd w ao xs) (hnil : ao = none → cap = 0) (hl : n ≤ 140737488355328) :
    Calls Tryz.prog 77 #[.pointer qv, .int .i64 i, .slice ao n cap] w fun e w' => e = .returned (.int .i64 (putE St i xs)) ∧ Lft (fun u F' => RBx u qv (putS St i xs) F') G w w' := by
  rcases h.ex with ⟨rfl, rfl⟩ | ⟨S, q, g, c, E, rfl, rfl, h3, hF⟩
  · refine Calls.mono (rput_no i _) ?_
    rintro e w' ⟨rfl, hw⟩
    have hw := hw.symm
    subst hw
    exact ⟨rfl, ⟨G, h, fun b hb => .inl hb⟩, Chg.refl _ _⟩
  · by_cases hno : i < 0 ∨ (S.length : Int) ≤ i ∨ xs.length = 0 ∨ 1024 < xs.length
    · rw [(putE_no hno).1, (putE_no hno).2]
      refine Calls.mono (rput_arg h3 i ao n cap xs hn hno hl) ?_
      rintro e w' ⟨rfl, hw⟩
      have hw := hw.symm
      subst hw
      exact ⟨rfl, ⟨G, h, fun b hb => .inl hb⟩, Chg.refl _ _⟩
    · obtain ⟨k, rfl⟩ : ∃ k : Nat, i = (k : Int) := ⟨i.toNat, by omega⟩
      have hk : k < S.length := by omega
      obtain ⟨d, ys, hd, hy, -, -, -⟩ := h3.at_ hk
      by_cases hys : ys = []
      · subst hys
        obtain ⟨e1, e2⟩ := putE_free (xs := xs) hk (by omega) (by omega) hy
        rw [e1, e2]
        refine Calls.mono (rput_free h3 k hk hy ao n cap xs hn (by omega) (by omega) hx hnil) ?_
        rintro e w' ⟨rfl, v', E', h4, h5, h6⟩
        obtain ⟨g', c', rfl⟩ := h4.val
        refine ⟨rfl, ⟨fun b => footR q _ E' b, ⟨fun b hb => h4.lt hb, .inr ⟨_, q, g', c', E', rfl, rfl, h4, fun b hb => hb⟩⟩, fun b hb => (h6 b hb).imp (hF b) id⟩, h5.mono (fun b hb => hF b (.inl hb))⟩
      · obtain ⟨e1, e2⟩ := putE_at (xs := xs) hk (by omega) (by omega) hy hys
        rw [e1, e2]
        refine Calls.mono (rput_there h3 k hk ys hy (List.length_pos_iff.2 hys) ao n cap xs hn (by omega) (by omega) hx) ?_
        rintro e w' ⟨rfl, hb⟩
        exact ⟨rfl, ⟨G, h.below hb, fun b hb => .inl hb⟩, Chg.of_below hb⟩
end
/-- what New makes -/
def newSt (r : Int) : Option (List Seg) := if 1 ≤ r ∧ r ≤ 64 then some (List.replicate r.toNat []) else none
def newEr (r : Int) : Int := if 1 ≤ r ∧ r ≤ 64 then 0 else 1
theorem pnew (r : Int) (w : World) : Calls Tryz.prog 64 #[.int .i64 r] w fun e w' => ∃ pv F, e = .returned (.tuple #[.pointer pv, .int .i64 (newEr r)]) ∧ (pv = none ↔ newSt r = none) ∧ PBx w' pv (newSt r) F ∧ (∀ b, F b → w.heap.size ≤ b) ∧ Below w.heap.size w w' := by
  by_cases h : 1 ≤ r ∧ r ≤ 64
  · obtain ⟨k, rfl⟩ : ∃ k : Nat, r = (k : Int) := ⟨r.toNat, by omega⟩
    have e1 : newSt (k : Int) = some (List.replicate k []) := by unfold newSt; rw [if_pos h]; rfl
    have e2 : newEr (k : Int) = 0 := if_pos h
    rw [e1, e2]
    refine Calls.mono (new_t k (by omega) (by omega)) ?_
    rintro e w' ⟨rfl, h1, h2⟩
    refine ⟨_, fun b => b = w.heap.size, rfl, by simp, ⟨fun b hb => by subst hb; exact (Array.getElem?_eq_some_iff.1 h1.hp).1, .inr ⟨_, _, _, rfl, rfl, h1, fun b hb => ?_⟩⟩, fun b hb => by omega, h2⟩
    rcases hb with hb | ⟨d, hd, ad, ha, -⟩
    · exact hb
    · obtain ⟨i, hi⟩ := List.mem_iff_getElem?.1 hd
      rw [zV_get hi] at ha
      cases ha
  · have e1 : newSt r = none := if_neg h
    have e2 : newEr r = 1 := if_neg h
    rw [e1, e2]
    refine Calls.mono (new_no r h) ?_
    rintro e w' ⟨rfl, hw⟩
    have hw := hw.symm
    subst hw
    exact ⟨none, fun _ => False, rfl, by simp, ⟨fun b hb => hb.elim, .inl ⟨rfl, .inl rfl⟩⟩, fun b hb => hb.elim, Below.refl _ _⟩
theorem qnew (r : Int) (w : World) : Calls Tryz.prog 75 #[.int .i64 r] w fun e w' => ∃ qv G, e = .returned (.tuple #[.pointer qv, .int .i64 (newEr r)]) ∧ (qv = none ↔ newSt r = none) ∧ RBx w' qv (newSt r) G ∧ (∀ b, G b → w.heap.size ≤ b) ∧ Below w.heap.size w w' := by
  by_cases h : 1 ≤ r ∧ r ≤ 64
  · obtain ⟨k, rfl⟩ : ∃ k : Nat, r = (k : Int) := ⟨r.toNat, by omega⟩
    have e1 : newSt (k : Int) = some (List.replicate k []) := by unfold newSt; rw [if_pos h]; rfl
    have e2 : newEr (k : Int) = 0 := if_pos h
    rw [e1, e2]
    refine Calls.mono (rnew_t k (by omega) (by omega)) ?_
    rintro e w' ⟨rfl, h1, h2⟩
    have h3 : Rx w' (w.heap.size + 1) (.slice (some ⟨w.heap.size, 0, none⟩) (List.replicate k ([] : Seg)).length k) (List.replicate k Dc.z) (List.replicate k []) := by rw [List.length_replicate]; exact h1
    refine ⟨_, fun b => footR (w.heap.size + 1) (.slice (some ⟨w.heap.size, 0, none⟩) k k) (List.replicate k Dc.z) b, rfl, by simp, ⟨fun b hb => h1.lt hb, .inr ⟨_, _, _, _, _, rfl, rfl, h3, fun b hb => ?_⟩⟩, fun b hb => foot_new hb, h2⟩
    rw [List.length_replicate] at hb
    exact hb
  · have e1 : newSt r = none := if_neg h
    have e2 : newEr r = 1 := if_neg h
    rw [e1, e2]
    refine Calls.mono (rnew_no r h) ?_
    rintro e w' ⟨rfl, hw⟩
    have hw := hw.symm
    subst hw
    exact ⟨none, fun _ => False, rfl, by simp, ⟨fun b hb => hb.elim, .inl ⟨rfl, rfl⟩⟩, fun b hb => hb.elim, Below.refl _ _⟩
end Go.Proofs.YtdoikcolkbjnfaaGreat
namespace Go.Proofs.YtdoikcolkbjnfaaGreat
set_option linter.unusedVariables false
set_option linter.unusedSimpArgs false
open Go.RowKit
theorem bF {b : Bool} {p : Prop} (h : b = true ↔ p) (n : ¬ p) : b = false := by
  cases b
  · rfl
  · exact absurd (h.1 rfl) n
theorem bT {b : Bool} {p : Prop} (h : b = true ↔ p) (y : p) : b = true := h.2 y
theorem range_box (w : World) (cs : List Value) (t : TypeId) : (w.alloc (.cells cs.toArray t (0, 0))).rangeAt w.heap.size 0 cs := fun j v hv => by
  rw [Nat.zero_add, cell_of_row _ _ _ _ _ _ (heap_alloc_new w _)]
  simpa using hv
theorem range_below {w w' : World} {b o : Nat} {cs : List Value} (h : w.rangeAt b o cs) (hb : Below w.heap.size w w') : w'.rangeAt b o cs := rangeAt_below h hb
theorem info_un : (Tryz.prog.info? 41).map (·.size) = some 9 := by kernel_rfl
section
set_option maxRecDepth 20000
set_option maxHeartbeats 1600000

theorem goodName_b (n : Int) (b : Bool) (hb : b = true ↔ nameOk n) (w : World) : Calls Tryz.prog 59 #[.int .u64 n] w fun e w' => e = .returned (.bool b) ∧ w' = w := by
  unfold nameOk at hb
  by_cases h0 : 1 ≤ n
  · skip
    by_cases h1 : n ≤ 281474976710655
    · skip
      obtain rfl : b = true := bT hb ⟨h0, h1⟩
      clear hb
      go_enter Tryz.func59, Tryz.ntmps59
      go_wp2
      go_ret
      exact ⟨by first | rfl | (simp; done) | (simp; omega) | simp_all, rfl⟩
    · obtain rfl : b = false := bF hb (fun h => h1 h.2)
      clear hb
      go_enter Tryz.func59, Tryz.ntmps59
      go_wp2
      go_ret
      exact ⟨by first | rfl | (simp; done) | (simp; omega) | simp_all, rfl⟩
  · obtain rfl : b = false := bF hb (fun h => h0 h.1)
    clear hb
    go_enter Tryz.func59, Tryz.ntmps59
    go_wp2
    go_ret
    exact ⟨by first | rfl | (simp; done) | (simp; omega) | simp_all, rfl⟩
theorem goodIndex_b (i : Int) (b : Bool) (hb : b = true ↔ 0 ≤ i ∧ i < 64) (w : World) : Calls Tryz.prog 120 #[.int .i64 i] w fun e w' => e = .returned (.bool b) ∧ w' = w := by
  by_cases h0 : 0 ≤ i
  · skip
    by_cases h1 : i < 64
    · skip
      obtain rfl : b = true := bT hb ⟨h0, h1⟩
      clear hb
      go_enter Tryz.func120, Tryz.ntmps120
      go_wp2
      go_ret
      exact ⟨by first | rfl | (simp; done) | (simp; omega) | simp_all, rfl⟩
    · obtain rfl : b = false := bF hb (fun h => h1 h.2)
      clear hb
      go_enter Tryz.func120, Tryz.ntmps120
      go_wp2
      go_ret
      exact ⟨by first | rfl | (simp; done) | (simp; omega) | simp_all, rfl⟩
  · obtain rfl : b = false := bF hb (fun h => h0 h.1)
    clear hb
    go_enter Tryz.func120, Tryz.ntmps120
    go_wp2
    go_ret
    exact ⟨by first | rfl | (simp; done) | (simp; omega) | simp_all, rfl⟩
theorem goodCount_b (i c : Int) (b : Bool) (hb : b = true ↔ i < c ∧ c ≤ 64) (w : World) : Calls Tryz.prog 121 #[.int .i64 i, .int .i64 c] w fun e w' => e = .returned (.bool b) ∧ w' = w := by
  by_cases h0 : i < c
  · skip
    by_cases h1 : c ≤ 64
    · skip
      obtain rfl : b = true := bT hb ⟨h0, h1⟩
      clear hb
      go_enter Tryz.func121, Tryz.ntmps121
      go_wp2
      go_ret
      exact ⟨by first | rfl | (simp; done) | (simp; omega) | simp_all, rfl⟩
    · obtain rfl : b = false := bF hb (fun h => h1 h.2)
      clear hb
      go_enter Tryz.func121, Tryz.ntmps121
      go_wp2
      go_ret
      exact ⟨by first | rfl | (simp; done) | (simp; omega) | simp_all, rfl⟩
  · obtain rfl : b = false := bF hb (fun h => h0 h.1)
    clear hb
    go_enter Tryz.func121, Tryz.ntmps121
    go_wp2
    go_ret
    exact ⟨by first | rfl | (simp; done) | (simp; omega) | simp_all, rfl⟩
theorem goodBytes_b (a : Option Addr) (n c : Nat) (b : Bool) (hb : b = true ↔ 1 ≤ n ∧ n ≤ 1024) (w : World) : Calls Tryz.prog 122 #[.slice a n c] w fun e w' => e = .returned (.bool b) ∧ w' = w := by
  by_cases h0 : 1 ≤ n
  · skip
    by_cases h1 : n ≤ 1024
    · skip
      obtain rfl : b = true := bT hb ⟨h0, h1⟩
      clear hb
      go_enter Tryz.func122, Tryz.ntmps122
      go_wp2
      go_ret
      exact ⟨by first | rfl | (simp; done) | (simp; omega) | simp_all, rfl⟩
    · obtain rfl : b = false := bF hb (fun h => h1 h.2)
      clear hb
      go_enter Tryz.func122, Tryz.ntmps122
      go_wp2
      go_ret
      exact ⟨by first | rfl | (simp; done) | (simp; omega) | simp_all, rfl⟩
  · obtain rfl : b = false := bF hb (fun h => h0 h.1)
    clear hb
    go_enter Tryz.func122, Tryz.ntmps122
    go_wp2
    go_ret
    exact ⟨by first | rfl | (simp; done) | (simp; omega) | simp_all, rfl⟩
theorem goodPath_b (p : Int) (b : Bool) (hb : b = true ↔ (p = 1 ∨ p = 2)) (w : World) : Calls Tryz.prog 119 #[.int .i64 p] w fun e w' => e = .returned (.bool b) ∧ w' = w := by
  by_cases h0 : p = 1
  · obtain rfl : b = true := bT hb (.inl h0)
    clear hb
    subst h0
    go_enter Tryz.func119, Tryz.ntmps119
    go_wp2
    go_ret
    exact ⟨by first | rfl | (simp; done) | (simp; omega) | simp_all, rfl⟩
  · by_cases h1 : p = 2
    · obtain rfl : b = true := bT hb (.inr h1)
      clear hb
      subst h1
      go_enter Tryz.func119, Tryz.ntmps119
      go_wp2
      go_ret
      exact ⟨by first | rfl | (simp; done) | (simp; omega) | simp_all, rfl⟩
    · obtain rfl : b = false := bF hb (fun h => by omega)
      clear hb
      go_enter Tryz.func119, Tryz.ntmps119
      go_wp2
      go_ret
      exact ⟨by first | rfl | (simp; done) | (simp; omega) | simp_all, rfl⟩
theorem reportless_b (k e s p i c : Int) (da : Option Addr) (dn dc : Nat) (cd : Int) (ga : Option Addr) (gn gc : Nat) (b : Bool) (hb : b = true ↔ (cd = 0 ∧ gn = 0)) (w : World) : Calls Tryz.prog 123 #[.agg #[.int .i64 k, .int .u64 e, .int .u64 s, .int .i64 p, .int .i64 i, .int .i64 c, .slice da dn dc, .int .i64 cd, .slice ga gn gc]] w fun e w' => e = .returned (.bool b) ∧ Below w.heap.size w w' := by
  by_cases h0 : cd = 0
  · skip
    by_cases h1 : gn = 0
    · skip
      obtain rfl : b = true := bT hb ⟨h0, h1⟩
      clear hb
      go_enter Tryz.func123, Tryz.ntmps123
      go_wp2
      go_ret
      exact ⟨by first | rfl | (simp; done) | (simp; omega) | simp_all, al (Below.refl _ _) _⟩
    · obtain rfl : b = false := bF hb (fun h => h1 h.2)
      clear hb
      go_enter Tryz.func123, Tryz.ntmps123
      go_wp2
      go_ret
      exact ⟨by first | rfl | (simp; done) | (simp; omega) | simp_all, al (Below.refl _ _) _⟩
  · obtain rfl : b = false := bF hb (fun h => h0 h.1)
    clear hb
    go_enter Tryz.func123, Tryz.ntmps123
    go_wp2
    go_ret
    exact ⟨by first | rfl | (simp; done) | (simp; omega) | simp_all, al (Below.refl _ _) _⟩
end
end Go.Proofs.YtdoikcolkbjnfaaGreat
