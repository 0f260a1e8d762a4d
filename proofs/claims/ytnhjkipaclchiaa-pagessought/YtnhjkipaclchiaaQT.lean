import Derived.Test.YtnhjkipaclchiaaQO4
import Derived.Test.YtnhjkipaclchiaaQO
import Derived.Test.YtnhjkipaclchiaaQF
namespace Go.Proofs.Ytnhjkipaclchiaa
set_option linter.unusedVariables false
set_option linter.unusedSimpArgs false
open Go.RowKit Go.Shelf
/-- what slices.Backward gives of the pages: their numbers, from the last one down -/
def bkP (m : Nat) : List Nat := List.ofFn (n := m) fun t => m - 1 - t.val
theorem bkP_length (m : Nat) : (bkP m).length = m := by simp [bkP]
theorem bkP_at (m q : Nat) (hq : q < m) (h : m - 1 - q < (bkP m).length) : (bkP m)[m - 1 - q] = q := by
  have e : m - 1 - (m - 1 - q) = q := by omega
  simp [bkP, e]
abbrev encP (P : List (List Ent)) (A : Nat → Option Addr) (C : Nat → Nat) (q : Nat) : Array Value := #[.int .i64 (q : Int), .slice (A q) (P.getD q []).length (C q)]
section
set_option maxRecDepth 100000
set_option maxHeartbeats 4000000
theorem backP_in (F : Fence) (n : Nat) (hf : F.fn 78) (hro : F.round = none) (hn : 1 ≤ n) (l g : Nat) (Kp : World → World → Prop) (hKr : ∀ V, Kp V V) (hKt : ∀ {A B C : World}, Kp A B → Kp B C → Kp A C) (hKs : ∀ {A B : World}, Kp A B → A.heap.size ≤ B.heap.size) (P : List (List Ent)) (A : Nat → Option Addr) (C : Nat → Nat) (pa : Option Addr) (K cap : Nat) (hK : K = P.length) (hl : K ≤ 4398046511104) (J Jx : List Nat → World → Prop)
    (hY : ∀ pre x W, x < P.length → J pre W → pre.length < P.length → YieldAt F (n - 1) Try.prog l (encP P A C x) W fun e W' => (e = .returned (.bool true) ∧ J (pre ++ [x]) W' ∧ Kp W W') ∨ (e = .returned (.bool false) ∧ Jx (pre ++ [x]) W'))
    (W : World) (hR : ∀ u, Kp W u → RdPA u pa P A C ∧ u.cell? ⟨g, 0, none⟩ = some (.slice pa K cap)) (h0 : J [] W) :
    CallsIn F n Try.prog 78 #[.func (.yield l) #[] #[], .pointer (some ⟨g, 0, none⟩)] W fun e W' => (∃ v, e = .returned v) ∧
      ((∃ ys, ys = bkP P.length ∧ J ys W') ∨ (∃ pre, pre <+: bkP P.length ∧ Jx pre W')) := by
  have HR : Hid _ := hR
  have HYY : Hid _ := hY
  have HK : Hid (K = P.length) := hK
  have hc2 := (hR W (hKr W)).2
  refine callsIn_of_wp Try.func78 rfl hf ?_ hro
  simp only [Try.ntmps78, List.size_toArray, List.length_cons, List.length_nil, Nat.reduceAdd, Nat.reduceSub, Array.replicate_succ, Array.replicate_zero, List.push_toArray, List.append_toArray, List.nil_append, List.cons_append]
  clear hR hY hK
  gi_wp2
  clear hc2
  gi_loopw [3] (fun i wr => ∃ q : Nat, q ≤ K ∧ i = .int .i64 ((q : Int) - 1) ∧ J ((bkP P.length).take (K - q)) wr ∧ Kp W wr) (fun i _ => (intOf i + 1).toNat)
  case atStart => exact ⟨K, Nat.le_refl _, rfl, by rw [Nat.sub_self]; exact h0, hKr _⟩
  case round =>
    obtain ⟨q1, hq1, rfl, hJs, hbw⟩ := hrel
    rcases q1 with _ | q
    · have HJS : Hid (J (bkP P.length) wr) := by rw [Nat.sub_zero, HK.out, List.take_of_length_le (Nat.le_of_eq (bkP_length _))] at hJs; exact hJs
      clear hJs
      gi_wp2
      go_end0
      exact ⟨⟨_, rfl⟩, .inl ⟨_, rfl, HJS.out⟩⟩
    · have eq1 : (((q + 1 : Nat) : Int) - 1) = (q : Int) := by omega
      rw [eq1]
      have hqx : q < P.length := by have := HK.out; omega
      obtain ⟨hrd, hc2⟩ := HR.out wr hbw
      obtain ⟨b5, o5, rfl, hcp, hkc, -⟩ := hrd q hqx
      have htk : (bkP P.length).take (K - q) = (bkP P.length).take (K - (q + 1)) ++ [q] := by
        have e1 : K - q = (P.length - 1 - q) + 1 := by have := HK.out; omega
        have e2 : K - (q + 1) = P.length - 1 - q := by have := HK.out; omega
        have h9 : P.length - 1 - q < (bkP P.length).length := by rw [bkP_length]; omega
        rw [e1, e2, List.take_succ_eq_append_getElem h9, bkP_at P.length q hqx h9]
      have eP : P.getD q [] = P[q] := by simp [List.getD, hqx]
      have HT : Hid _ := htk
      obtain ⟨fn, tmps, assign, body, hy, hRd⟩ := HYY.out _ q _ hqx hJs (by have := HK.out; simp [bkP_length]; omega)
      have HBW : Hid (Kp W wr) := hbw
      have hqi : (q : Int) < (K : Int) := by omega
      have hq0' : (0 : Int) ≤ (q : Int) := by omega
      dsimp only [encP] at hy
      rw [eP] at hy
      clear hJs hbw hrd htk eq1 eP
      gi_wp2
      refine hRd.mono ?_
      rintro e W3 (⟨rfl, hJ3, hk3⟩ | ⟨rfl, hJx3⟩)
      · gi_wp2
        go_roundw
        case rel =>
          have h7 : J ((bkP P.length).take (K - q)) W3 := by rw [HT.out]; exact hJ3
          first | exact ⟨q, by omega, by go_num, h7, hKt HBW.out hk3⟩ | (iterate 12 (apply Exists.intro); refine And.intro ?_ rfl; exact ⟨q, by omega, by go_num, h7, hKt HBW.out hk3⟩)
        case measure => simp [intOf]
      · gi_wp2
        refine bodyPost_ret (results_none rfl _ _ _) rfl ?_
        exact ⟨⟨_, rfl⟩, .inr ⟨_, by rw [← HT.out]; exact List.take_prefix _ _, hJx3⟩⟩
end
end Go.Proofs.Ytnhjkipaclchiaa
namespace Go.Proofs.Ytnhjkipaclchiaa
set_option linter.unusedVariables false
set_option linter.unusedSimpArgs false
open Go.RowKit Go.Shelf
variable {F : Fence} {n : Nat} {P : Program}
/-- what an iterator promises whose loop stands in another iterator's body: a round keeps besides whatever is no cells and was laid since the iterator was called -/
def SeqM {α : Type} (F : Fence) (n : Nat) (P : Program) (g : Nat) (lb : Array Value) (encs : α → Array Value) (Kp : World → World → Prop) (S Sp : List α → Prop) (N : Nat) (w : World) : Prop :=
  ∀ (l : Nat) (J Jx : List α → World → Prop) (W : World), Below w.heap.size w W → OwnFrom W.heap.size J → OwnFrom W.heap.size Jx →
    (∀ pre x V, J pre V → pre.length < N → YieldAt F (n - 1) P l (encs x) V fun e V' => KeepsFrom W.heap.size V V' ∧ ((e = .returned (.bool true) ∧ J (pre ++ [x]) V' ∧ Kp V V') ∨ (e = .returned (.bool false) ∧ Jx (pre ++ [x]) V'))) →
    J [] W → CallsIn F n P g (#[.func (.yield l) #[] #[]] ++ lb) W fun e V' => (∃ v, e = .returned v) ∧ ((∃ xs, S xs ∧ J xs V') ∨ (∃ pre, Sp pre ∧ Jx pre V'))
theorem own_abides {β : Type} {B : Nat} {J : β → World → Prop} (h : OwnFrom B J) : AbidesFrom B J := fun s V V' row hs hg hr => h s V V' row hs hg (fun r e => by obtain ⟨h1, o, h2, h3⟩ := hr r e; exact ⟨h1, o, h2, Obj.not_cells_of_walk h3⟩)
/-- what asks less of its rounds serves too -/
theorem seqM_of_K {α : Type} {g : Nat} {lb : Array Value} {encs : α → Array Value} {Kp : World → World → Prop} {S Sp : List α → Prop} {N : Nat} {w : World} (h : SeqStopsK F n P g lb encs Kp S Sp N w) : SeqM F n P g lb encs Kp S Sp N w :=
  fun l J Jx W hW hJ hJx hY h0 => h l J Jx W hW (own_abides hJ) (own_abides hJx) (fun pre x V hj hl => (hY pre x V hj hl).mono fun _ _ hp => hp.2) h0
theorem keeps_up {B C : Nat} {V V' : World} (h : KeepsFrom B V V') (hBC : B ≤ C) : KeepsFrom C V V' := ⟨h.size, fun k o hk h1 h2 => h.same k o (Nat.le_trans hBC hk) h1 h2⟩
theorem keeps_put {B l : Nat} (V : World) (o : Obj) (hl : l < B) : KeepsFrom B V (V.putObj l o) := KeepsFrom.of_grownBy (grownBy_putObj' V l o) (fun j e => by cases e; exact hl)
/-- the record of the loop that was entered in w, in a state -/
abbrev recAt (fn : FuncId) (a : Act) (ps : Array Tmp) (assign body : Code) (D : Nat) (st : LoopState) (pe : Option Code) : Loop := { state := st, pending := pe, fn, tmps := a.tmps, params := ps, assign, body, defers := D }
/-- the loop's two blocks: the record and what its rounds have deferred -/
def Two (fn : FuncId) (a : Act) (ps : Array Tmp) (assign body : Code) (D : Nat) (st : LoopState) (pe : Option Code) (V : World) : Prop :=
  V.heap[D + 1]? = some (.loop (recAt fn a ps assign body D st pe)) ∧ V.heap[D]? = some (.deferred (some []))
section
variable {fn : FuncId} {a : Act} {ps : Array Tmp} {assign body : Code} {D : Nat} {st : LoopState} {pe : Option Code} {V V' : World}
theorem Two.lt (h : Two fn a ps assign body D st pe V) : D + 1 < V.heap.size := (Array.getElem?_eq_some_iff.1 h.1).1
theorem Two.keep (h : Two fn a ps assign body D st pe V) (k : KeepsFrom D V V') : Two fn a ps assign body D st pe V' := ⟨k.same _ _ (Nat.le_succ _) h.1 rfl, k.same _ _ (Nat.le_refl _) h.2 rfl⟩
theorem Two.turn (h : Two fn a ps assign body D st pe V) (st' : LoopState) (pe' : Option Code) : Two fn a ps assign body D st' pe' (V.putObj (D + 1) (.loop (recAt fn a ps assign body D st' pe'))) :=
  ⟨World.putObj_heap_same h.lt, (World.putObj_heap_other (by omega)).trans h.2⟩
theorem Two.far {B : Nat} (h : Two fn a ps assign body D st pe V) (hB : D + 1 < B) {row : Option Nat} (hg : V.grownBy V' row) (hr : ∀ r, row = some r → B ≤ r) : Two fn a ps assign body D st pe V' :=
  ⟨(hg.block _ h.lt (fun e => by have := hr _ e.symm; omega)).trans h.1, (hg.block _ (Nat.lt_of_succ_lt h.lt) (fun e => by have := hr _ e.symm; omega)).trans h.2⟩
end
set_option maxHeartbeats 2000000 in
theorem wpIn_rangeFunc_M {α : Type} {g : Operand} {ps : Array Tmp} {assign body : Code} {Q : Exit → Act → World → Prop} {a : Act} {w : World}
    (hro : F.round = none) (h1 : 1 ≤ n) {gf : Nat} {lb : Array Value} (hg : a.eval g = .func (.func gf) #[] lb) (hFg : F.fn gf) (eg : ∀ args w, (callFunc gf args).run P w = .ok (.enter gf args) w)
    {encs : α → Array Value} {n₀ : Nat} {S Sp : List α → Prop} {N : Nat} {w0 : World} (hseq : SeqM F (n - 1) P gf lb encs (Below n₀) S Sp N w0) (hn₀ : n₀ ≤ w.heap.size) (hb0 : Below w0.heap.size w0 w) (hps : ∀ x, (encs x).size = ps.size)
    (I : List α → World → Prop) (Ix : Code → List α → World → Prop) (hI : OwnFrom w.heap.size I) (hIx : ∀ c, OwnFrom w.heap.size (Ix c)) (h0 : I [] w) (Ax : α → Act → World → Prop) (hAx : ∀ x a', OwnFrom w.heap.size (fun (_ : Unit) W => Ax x a' W))
    (hassign : ∀ (l : Nat) (pre : List α) (x : α) (W : World) (K : Act → World → Prop), I pre W → (∀ a' W', KeepsFrom w.heap.size W W' → Below n₀ W W' → I pre W' → Ax x a' W' → K a' W') →
      assign.wpIn (F.inRound l) (n - 1 - 1) P (Exit.then K (fun _ _ _ => False)) { tmps := (ps.zip (encs x)).foldl (fun t (p, v) => t.setIfInBounds p v) a.tmps, defers := [] } W)
    (hbody : ∀ (l : Nat) (pre : List α) (x : α) (a' : Act) (W : World), w.heap.size ≤ l → (∃ r, W.heap[l]? = some (.loop r)) → I pre W → Ax x a' W → pre.length < N → body.wpIn (F.inRound l) (n - 1 - 1) P (ownPostG w.heap.size (Below n₀) I Ix (pre ++ [x]) W) a' W)
    (hdone : ∀ (D : Nat) (xs : List α) (W : World), w.heap.size ≤ D → S xs → I xs W → W.heap[D]? = some (.deferred (some [])) → Q .normal { a with defers := { target := .collected D, args := #[] } :: a.defers } W)
    (hstop : ∀ (D : Nat) (c : Code) (pre : List α) (W : World), w.heap.size ≤ D → Sp pre → Ix c pre W → W.heap[D]? = some (.deferred (some [])) → c.wpIn F n P Q { a with defers := { target := .collected D, args := #[] } :: a.defers } W) :
    (Code.rangeFunc g ps assign body).wpIn F n P Q a w := by
  refine wpIn_rangeFunc fun fn hfn => ?_
  rw [hro]
  obtain ⟨W1, hW1⟩ : ∃ W1, W1 = (w.alloc (.deferred (some []))).alloc (.loop (recAt fn a ps assign body w.heap.size .ready none)) := ⟨_, rfl⟩
  have hsz : W1.heap.size = w.heap.size + 2 := by rw [hW1]; simp
  have hT : Two fn a ps assign body w.heap.size .ready none W1 := by rw [hW1]; exact ⟨(two_new w _ _).2, (two_new w _ _).1⟩
  have hB1 : Below w.heap.size w W1 := by rw [hW1]; exact al (al (Below.refl _ _) _) _
  have hI1 : I [] W1 := by rw [hW1]; exact hI.alloc _ (hI.alloc _ h0)
  refine ⟨w.heap.size + 1, [{ target := .collected w.heap.size, args := #[] }], W1, { target := .fn (.func gf) lb, args := #[.func (.yield (w.heap.size + 1)) #[] #[]] }, W1, gf, #[.func (.yield (w.heap.size + 1)) #[] #[]] ++ lb, W1, ?_, ?_, ?_, ?_, fun _ => h1, ?_⟩
  · rw [hW1]; exact run_enterLoop_outer _ _ _ _ _
  · simp only [resolve, hg]; simp [go_sem]
  · intro f hf; simp [Target.leads] at hf; subst hf; exact hFg
  · simp [invoke, go_sem, eg]
  refine (hseq (w.heap.size + 1) (fun pre V => I pre V ∧ Two fn a ps assign body w.heap.size .ready none V) (fun pre V => ∃ c, Ix c pre V ∧ Two fn a ps assign body w.heap.size .done (some c) V) W1 (hb0.trans (hB1.mono hb0.size))
    (fun s A B row hs hg' hr => ⟨hI s A B row hs.1 hg' (fun r e => ⟨by have := (hr r e).1; omega, (hr r e).2⟩), hs.2.far (B := W1.heap.size) (by omega) hg' (fun r e => (hr r e).1)⟩)
    (fun s A B row ⟨c, hc, ht⟩ hg' hr => ⟨c, hIx c s A B row hc hg' (fun r e => ⟨by have := (hr r e).1; omega, (hr r e).2⟩), ht.far (B := W1.heap.size) (by omega) hg' (fun r e => (hr r e).1)⟩) ?round ⟨hI1, hT⟩).mono ?_
  case round =>
    rintro pre x V ⟨hi, ht⟩ hlen
    refine ⟨fn, _, assign, body, run_yield (P := P) (args := encs x) ht.1 (hps x), roundIn_of_wpIn hfn (hassign _ pre x V _ hi ?_)⟩
    intro a' Va hka hba hia hxa
    have hta := ht.keep hka
    refine ⟨_, run_beginRound hta.1 rfl, ?_⟩
    have htb := hta.turn .busy none
    have hbb : Below n₀ Va (Va.putObj (w.heap.size + 1) (.loop (recAt fn a ps assign body w.heap.size .busy none))) := belowK_b hn₀ Va (w.heap.size + 1) _ _ (Nat.le_succ _) hta.1 rfl rfl
    refine wpIn_mono (hbody _ pre x a' _ (Nat.le_succ _) ⟨_, htb.1⟩ (hI.putObj _ hia (Nat.le_succ _) hta.1 rfl) ((hAx x a').putObj (s := ()) _ hxa (Nat.le_succ _) hta.1 rfl) hlen) ?_
    have kr : ∀ V3, KeepsFrom w.heap.size (Va.putObj (w.heap.size + 1) (.loop (recAt fn a ps assign body w.heap.size .busy none))) V3 → ∀ o, KeepsFrom W1.heap.size V (V3.putObj (w.heap.size + 1) o) := fun V3 k3 o => by
      have hle : w.heap.size ≤ W1.heap.size := by omega
      exact (((keeps_up hka hle).trans (keeps_put Va _ (by omega))).trans (keeps_up k3 hle)).trans (keeps_put V3 o (by omega))
    have leave : ∀ c V3, KeepsFrom w.heap.size (Va.putObj (w.heap.size + 1) (.loop (recAt fn a ps assign body w.heap.size .busy none))) V3 → Ix c (pre ++ [x]) V3 → ∃ v V4, (Instr.endRound (w.heap.size + 1) (some c)).run P V3 = .ok v V4 ∧ (KeepsFrom W1.heap.size V V4 ∧ ((Ending.returned v = .returned (.bool true) ∧ (I (pre ++ [x]) V4 ∧ Two fn a ps assign body w.heap.size .ready none V4) ∧ Below n₀ V V4) ∨ (Ending.returned v = .returned (.bool false) ∧ ∃ c, Ix c (pre ++ [x]) V4 ∧ Two fn a ps assign body w.heap.size .done (some c) V4))) := fun c V3 k3 hx3 => by
      have ht3 := htb.keep k3
      exact ⟨_, _, run_endRound (P := P) (some c) ht3.1, kr V3 k3 _, .inr ⟨rfl, c, (hIx c).putObj _ hx3 (Nat.le_succ _) ht3.1 rfl, ht3.turn .done (some c)⟩⟩
    intro e a3 V3 hp
    cases e with
    | normal =>
      obtain ⟨k3, b3, i3⟩ := hp
      have ht3 := htb.keep k3
      exact ⟨_, _, run_endRound (P := P) none ht3.1, kr V3 k3 _, .inl ⟨rfl, ⟨hI.putObj _ i3 (Nat.le_succ _) ht3.1 rfl, ht3.turn .ready none⟩, hba.trans ((hbb.trans b3).trans (belowK_b hn₀ V3 (w.heap.size + 1) _ _ (Nat.le_succ _) ht3.1 rfl rfl))⟩⟩
    | ret => exact leave _ V3 hp.1 hp.2
    | exit id => exact leave _ V3 hp.1 hp.2
    | goto t => exact leave _ V3 hp.1 hp.2
    | panic ch => exact hp.elim
    | outgrown => exact hp.elim
  rintro e V2 ⟨⟨v, rfl⟩, (⟨xs, hS, hi, ht⟩ | ⟨pre, hSp, c, hi, ht⟩)⟩
  · exact ⟨none, _, run_endLoop (P := P) ht.1 (by simp), hdone _ xs _ (Nat.le_refl _) hS (hI.putObj _ hi (Nat.le_succ _) ht.1 rfl) ((World.putObj_heap_other (by omega)).trans ht.2)⟩
  · exact ⟨some c, _, run_endLoop (P := P) ht.1 (by simp), hstop _ c pre _ (Nat.le_refl _) hSp ((hIx c).putObj _ hi (Nat.le_succ _) ht.1 rfl) ((World.putObj_heap_other (by omega)).trans ht.2)⟩
end Go.Proofs.Ytnhjkipaclchiaa
namespace Go.Proofs.Ytnhjkipaclchiaa
set_option linter.unusedVariables false
set_option linter.unusedSimpArgs false
open Go.RowKit
theorem info_int : (Try.prog.info? 3).map (fun i => (i.zero, i.size, i.bytes)) = some (some (.int .i64 0), 1, 8) := by kernel_rfl
abbrev cnt (P : List (List Ent)) : List Value := P.map fun p => .int .i64 (p.length : Int)
section
set_option maxRecDepth 20000
set_option maxHeartbeats 3200000
theorem get_t (x : Value) (pa : Option Addr) (n cap : Nat) (P : List (List Ent)) (s1 s2 : Nat) (w : World) (hx : PgV w x pa n cap) (hn : n = P.length) (hp : RdP w pa P) (hsp : SP P) (hl : n ≤ 4398046511104) (hlp : ∀ p ∈ P, p.length ≤ 100) :
    Calls Try.prog 17 #[x, sv (s1, s2)] w fun e w' => ∃ (p i : Nat) (ok : Bool) (v : Nat), e = .returned (.tuple #[.int .u64 (v : Int), .bool ok]) ∧ PlaceIs P (s1, s2) p i ok ∧ (ok = false → v = 0) ∧ (ok = true → ∃ h : i < (P.getD p []).length, v = (P.getD p [])[i].n) ∧ Below w.heap.size w w' := by
  obtain ⟨w1, hw1⟩ : ∃ X : World, X = w.alloc (.cells #[.int .u64 (s1 : Int), .int .u64 (s2 : Int)] tSt) := ⟨_, rfl⟩
  have hb1 : Below w.heap.size w w1 := by rw [hw1]; exact al (Below.refl _ _) _
  have HPL : Hid _ := place_t x pa n cap P (s1, s2) w1 (hx.below hb1) hn (hp.below hb1) hsp hl hlp
  have HX : Hid (PgV w x pa n cap) := hx
  have HB1 : Hid _ := hb1
  have HN : Hid _ := hn
  have HP : Hid (RdP w pa P) := hp
  clear hx hp hsp hlp hn hb1
  go_enter Try.func17, Try.ntmps17
  go_wp2_with fail
  rw [← hw1]
  refine Calls.mono HPL.out ?_
  rintro e w2 ⟨p, i, ok, rfl, hpl, hb2⟩
  have HB2 : Hid (Below w.heap.size w w2) := below_next HB1.out hb2
  have HPI : Hid (PlaceIs P (s1, s2) p i ok) := hpl
  cases ok
  · clear hpl hb2 hw1
    go_wp2
    refine bodyPost_ret (results_tmp2 rfl _ _ _) rfl ?_
    exact ⟨p, i, false, 0, rfl, HPI.out, fun _ => rfl, (fun h => by cases h), HB2.out⟩
  · obtain ⟨hpP, hiP, -⟩ : ∃ (hpP : p < P.length) (hiP : i < P[p].length), True := by
      rcases hpl with ⟨-, -, -, h⟩ | ⟨r, -, -, h3, -, h5⟩
      · cases h
      · obtain ⟨h6, -⟩ := h5.1 rfl
        rw [show P.getD p [] = P[p] by simp [List.getD, h3]] at h6
        exact ⟨h3, h6, trivial⟩
    have eP : P.getD p [] = P[p] := by simp [List.getD, hpP]
    obtain ⟨b, o, hpa, a, c, hcp, hkc, hnc, hre⟩ := (RdP.below HP.out HB2.out) p hpP
    subst hpa
    obtain ⟨b2, o2, ha, hr2, -⟩ := hre i hiP
    subst ha
    obtain ⟨g, hxg, hcg⟩ : ∃ g, x = .pointer (some ⟨g, 0, none⟩) ∧ w2.cell? ⟨g, 1, none⟩ = some (.slice (some ⟨b, o, none⟩) n cap) := by
      rcases PgV.below HX.out HB2.out with ⟨-, h, -⟩ | h
      · cases h
      · exact h
    subst hxg
    obtain ⟨K0, hK0⟩ : ∃ K0, K0 = P[p].length := ⟨_, rfl⟩
    rw [← hK0] at hcp
    obtain ⟨vn, hvn⟩ : ∃ vn, vn = P[p][i].n := ⟨_, rfl⟩
    have hq2 := hr2 2 _ rfl
    simp only [ev, Ent.v] at hq2
    rw [← hvn] at hq2
    have hpi : (p : Int) < (n : Int) := by have := HN.out; omega
    have hp0 : (0 : Int) ≤ (p : Int) := by omega
    have hii : (i : Int) < (K0 : Int) := by omega
    have hi0 : (0 : Int) ≤ (i : Int) := by omega
    have HVN : Hid (vn = P[p][i].n) := hvn
    clear hpl hb2 hw1 hr2 hre hkc hnc hK0 hvn
    go_wp2
    refine bodyPost_ret (results_tmp2 rfl _ _ _) rfl ?_
    exact ⟨p, i, true, vn, rfl, HPI.out, (fun h => by cases h), fun _ => ⟨by rw [eP]; exact hiP, by rw [HVN.out]; congr 1; simp only [eP]⟩, HB2.out⟩
theorem pages_t (x : Value) (pa : Option Addr) (n cap : Nat) (P : List (List Ent)) (w : World) (hx : PgV w x pa n cap) (hn : n = P.length) (hp : RdP w pa P) (hl : n ≤ 4398046511104) :
    Calls Try.prog 21 #[x] w fun e w' => ∃ v, e = .returned v ∧ w'.ownsRow w.heap.size 3 1 v n (cnt P) ∧ Below w.heap.size w w' := by
  have HA : Hid _ := all_t x pa n cap w hx
  have HN : Hid (n = P.length) := hn
  have HP : Hid (RdP w pa P) := hp
  obtain ⟨i0, hi, hz0, hz1, hz2⟩ := info_parts info_int
  clear hx hn hp
  go_enter Try.func21, Try.ntmps21
  go_wp2_with fail
  refine Calls.mono HA.out ?_
  rintro e z ⟨rfl, hz⟩
  have hz := hz.symm
  subst hz
  go_wp2
  go_loopw [3, 9] (fun v i wr => ∃ k : Nat, k ≤ n ∧ i = .int .i64 (k : Int) ∧ wr.ownsRow w.heap.size 3 1 v k (cnt (P.take k)) ∧ Below w.heap.size w wr) (fun _ i _ => n - (intOf i).toNat)
  case atStart => exact ⟨0, Nat.zero_le _, rfl, World.ownsRow_nil _ _ _ _, Below.refl _ _⟩
  case round =>
    obtain ⟨k, hk, rfl, hown, hbw⟩ := hrel
    have HBW : Hid (Below w.heap.size w wr) := hbw
    by_cases hlt : k < n
    · have hkP : k < P.length := by have := HN.out; omega
      obtain ⟨b, o, hpa, a, c, hcp, hkc, hnc, -⟩ := (RdP.below HP.out hbw) k hkP
      subst hpa
      obtain ⟨K0, hK0⟩ : ∃ K0, K0 = P[k].length := ⟨_, rfl⟩
      rw [← hK0] at hcp
      have HE : Hid (cnt (P.take (k + 1)) = cnt (P.take k) ++ [.int .i64 (K0 : Int)]) := (show cnt (P.take (k + 1)) = cnt (P.take k) ++ [.int .i64 (K0 : Int)] by rw [List.take_succ_eq_append_getElem hkP, hK0]; unfold cnt; rw [List.map_append]; rfl)
      obtain ⟨X, hX⟩ : ∃ X : World, X = wr.alloc (.cells #[.int .i64 (K0 : Int)] 3) := ⟨_, rfl⟩
      have hbX : Below wr.heap.size wr X := by rw [hX]; exact al (Below.refl _ _) _
      have HXG : Hid (X.heap[wr.heap.size]? = some (.cells #[.int .i64 (K0 : Int)] 3 (0, 0))) := (show X.heap[wr.heap.size]? = some (.cells #[.int .i64 (K0 : Int)] 3 (0, 0)) by rw [hX]; exact heap_alloc_new wr _)
      obtain ⟨V, hV⟩ : ∃ V, V = u3 := ⟨_, rfl⟩
      have HOX : Hid (X.ownsRow w.heap.size 3 1 u3 k (cnt (P.take k))) := (show X.ownsRow w.heap.size 3 1 u3 k (cnt (P.take k)) from ⟨hown.1, by
        rcases hown.2 with h0 | ⟨g', cap', cur, e, hB, hg', r⟩
        · exact .inl h0
        · exact .inr ⟨g', cap', cur, e, hB, (hbX.block g' (Array.getElem?_eq_some_iff.1 hg').1).trans hg', r⟩⟩)
      have HBX : Hid (Below w.heap.size w X) := below_next hbw hbX
      have hki : (k : Int) < (n : Int) := by omega
      have hk0 : (0 : Int) ≤ (k : Int) := by omega
      clear hK0 hbX hown hbw hkc hnc hV
      go_wp2_with (at_builtin; rw [← hX]; refine wpList_append_own_at _ rfl _ _ 46 rfl w.heap.size 3 i0 (.int .i64 0) 1 8 Try.underlying46 hi hz0 hz1 hz2 rfl (by decide) _ _ _ rfl HOX.out ⟨wr.heap.size, 0, none⟩ 1 1 [.int .i64 (K0 : Int)] rfl rfl (World.news_of_block HXG.out) (by intro u hu; simp at hu; subst hu; rfl) (by simp only [maxLen]; omega) (by omega) HBX.out.size ?_; intro v' w1 hown' hgrow _ _; have HO1 : Hid _ := hown'; have HG1 : Hid _ := hgrow; clear hown' hgrow)
      go_roundw
      case rel => exact ⟨k + 1, by omega, by go_num, by rw [HE.out]; exact HO1.out, HBX.out.grown HG1.out HBX.out.size (fun j hj => (World.ownsRow.lt HOX.out j hj).1)⟩
      case measure => simp [intOf]; omega
    · obtain rfl : k = n := by omega
      have HOW : Hid _ := hown
      clear hown
      go_wp2
      go_ret
      have h9 := HOW.out
      rw [HN.out, List.take_length] at h9
      rw [HN.out]
      exact ⟨_, rfl, h9, HBW.out⟩
end
end Go.Proofs.Ytnhjkipaclchiaa
