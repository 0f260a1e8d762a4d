import Derived.Test.YtnhjkipaclchiabQW
namespace Go.Proofs.Ytnhjkipaclchiab
set_option linter.unusedVariables false
set_option linter.unusedSimpArgs false
open Go.RowKit Go.Shelf
variable {F : Fence} {n : Nat} {P : Program}
/-- what an iterator promises whose loop stands in another iterator's body: a round keeps besides whatever is no cells and was laid since the iterator was called -/
def SeqM {α : Type} (F : Fence) (n : Nat) (P : Program) (g : Nat) (lb : Array Value) (encs : α → Array Value) (Kp : World → World → Prop) (S Sp : List α → Prop) (N : Nat) (w : World) : Prop :=
  ∀ (l : Nat) (J Jx : List α → World → Prop) (W : World), Below w.heap.size w W → OwnFrom W.heap.size J → OwnFrom W.heap.size Jx →
    (∀ pre x V, J pre V → pre.length < N → YieldAt F (n - 1) P l (encs x) V fun e V' => KeepsFrom W.heap.size V V' ∧ ((e = .returned (.bool true) ∧ J (pre ++ [x]) V' ∧ Kp V V') ∨ (e = .returned (.bool false) ∧ Jx (pre ++ [x]) V'))) →
    J [] W → CallsIn F n P g (#[.func (.yield l) #[] #[]] ++ lb) W fun e V' => (∃ v, e = .returned v) ∧ ((∃ xs, S xs ∧ J xs V') ∨ (∃ pre, Sp pre ∧ Jx pre V'))
theorem own_abides {β : Type} {B : Nat} {J : β → World → Prop} (h : OwnFrom B J) : AbidesFrom B J := fun s V V' row hs hg hr => h s V V' row hs hg (fun r e => by obtain ⟨h1, o, h2, h3⟩ := hr r e; exact ⟨h1, o, h2, Obj.not_cells_of_walk h3⟩)
/-- what asks less of its rounds serves too -/
theorem seqM_of_K {α : Type} {g : Nat} {lb : Array Value} {encs : α → Array Value} {Kp : World → World → Prop} {S Sp : List α → Prop} {N : Nat} {w : World} (h : SeqStopsK F n P g lb encs Kp S Sp N w) : SeqM F n P g lb encs Kp S Sp N w :=
  fun l J Jx W hW hJ hJx hY h0 => h l J Jx W hW (own_abides hJ) (own_abides hJx) (fun pre x V hj hl => (hY pre x V hj hl).mono fun _ _ hp => hp.2) h0
theorem keeps_up {B C : Nat} {V V' : World} (h : KeepsFrom B V V') (hBC : B ≤ C) : KeepsFrom C V V' := ⟨h.size, fun k o hk h1 h2 => h.same k o (Nat.le_trans hBC hk) h1 h2⟩
theorem keeps_put {B l : Nat} (V : World) (o : Obj) (hl : l < B) : KeepsFrom B V (V.putObj l o) := KeepsFrom.of_grownBy (grownBy_putObj' V l o) (fun j e => by cases e; exact hl)
/-- the record of the loop that was entered in w, in a state -/
abbrev recAt (fn : FuncId) (a : Act) (ps : Array Tmp) (assign body : Code) (D : Nat) (st : LoopState) (pe : Option Code) : Loop := { state := st, pending := pe, fn, tmps := a.tmps, params := ps, assign, body, defers := D }
/-- the loop's two blocks: the record and what its rounds have deferred -/
def Two (fn : FuncId) (a : Act) (ps : Array Tmp) (assign body : Code) (D : Nat) (st : LoopState) (pe : Option Code) (V : World) : Prop :=
  V.heap[D + 1]? = some (.loop (recAt fn a ps assign body D st pe)) ∧ V.heap[D]? = some (.deferred (some []))
section
variable {fn : FuncId} {a : Act} {ps : Array Tmp} {assign body : Code} {D : Nat} {st : LoopState} {pe : Option Code} {V V' : World}
theorem Two.lt (h : Two fn a ps assign body D st pe V) : D + 1 < V.heap.size := (Array.getElem?_eq_some_iff.1 h.1).1
theorem Two.keep (h : Two fn a ps assign body D st pe V) (k : KeepsFrom D V V') : Two fn a ps assign body D st pe V' := ⟨k.same _ _ (Nat.le_succ _) h.1 rfl, k.same _ _ (Nat.le_refl _) h.2 rfl⟩
theorem Two.turn (h : Two fn a ps assign body D st pe V) (st' : LoopState) (pe' : Option Code) : Two fn a ps assign body D st' pe' (V.putObj (D + 1) (.loop (recAt fn a ps assign body D st' pe'))) :=
  ⟨World.putObj_heap_same h.lt, (World.putObj_heap_other (by omega)).trans h.2⟩
theorem Two.far {B : Nat} (h : Two fn a ps assign body D st pe V) (hB : D + 1 < B) {row : Option Nat} (hg : V.grownBy V' row) (hr : ∀ r, row = some r → B ≤ r) : Two fn a ps assign body D st pe V' :=
  ⟨(hg.block _ h.lt (fun e => by have := hr _ e.symm; omega)).trans h.1, (hg.block _ (Nat.lt_of_succ_lt h.lt) (fun e => by have := hr _ e.symm; omega)).trans h.2⟩
end
set_option maxHeartbeats 2000000 in
theorem wpIn_rangeFunc_M {α : Type} {g : Operand} {ps : Array Tmp} {assign body : Code} {Q : Exit → Act → World → Prop} {a : Act} {w : World}
    (hro : F.round = none) (h1 : 1 ≤ n) {gf : Nat} {lb : Array Value} (hg : a.eval g = .func (.func gf) #[] lb) (hFg : F.fn gf) (eg : ∀ args w, (callFunc gf args).run P w = .ok (.enter gf args) w)
    {encs : α → Array Value} {n₀ : Nat} {S Sp : List α → Prop} {N : Nat} {w0 : World} (hseq : SeqM F (n - 1) P gf lb encs (Below n₀) S Sp N w0) (hn₀ : n₀ ≤ w.heap.size) (hb0 : Below w0.heap.size w0 w) (hps : ∀ x, (encs x).size = ps.size)
    (I : List α → World → Prop) (Ix : Code → List α → World → Prop) (hI : OwnFrom w.heap.size I) (hIx : ∀ c, OwnFrom w.heap.size (Ix c)) (h0 : I [] w) (Ax : α → Act → World → Prop) (hAx : ∀ x a', OwnFrom w.heap.size (fun (_ : Unit) W => Ax x a' W))
    (hassign : ∀ (l : Nat) (pre : List α) (x : α) (W : World) (K : Act → World → Prop), I pre W → (∀ a' W', KeepsFrom w.heap.size W W' → Below n₀ W W' → I pre W' → Ax x a' W' → K a' W') →
      assign.wpIn (F.inRound l) (n - 1 - 1) P (Exit.then K (fun _ _ _ => False)) { tmps := (ps.zip (encs x)).foldl (fun t (p, v) => t.setIfInBounds p v) a.tmps, defers := [] } W)
    (hbody : ∀ (l : Nat) (pre : List α) (x : α) (a' : Act) (W : World), w.heap.size ≤ l → (∃ r, W.heap[l]? = some (.loop r)) → I pre W → Ax x a' W → pre.length < N → body.wpIn (F.inRound l) (n - 1 - 1) P (ownPostG w.heap.size (Below n₀) I Ix (pre ++ [x]) W) a' W)
    (hdone : ∀ (D : Nat) (xs : List α) (W : World), w.heap.size ≤ D → S xs → I xs W → W.heap[D]? = some (.deferred (some [])) → Q .normal { a with defers := { target := .collected D, args := #[] } :: a.defers } W)
    (hstop : ∀ (D : Nat) (c : Code) (pre : List α) (W : World), w.heap.size ≤ D → Sp pre → Ix c pre W → W.heap[D]? = some (.deferred (some [])) → c.wpIn F n P Q { a with defers := { target := .collected D, args := #[] } :: a.defers } W) :
    (Code.rangeFunc g ps assign body).wpIn F n P Q a w := by
  refine wpIn_rangeFunc fun fn hfn => ?_
  rw [hro]
  obtain ⟨W1, hW1⟩ : ∃ W1, W1 = (w.alloc (.deferred (some []))).alloc (.loop (recAt fn a ps assign body w.heap.size .ready none)) := ⟨_, rfl⟩
  have hsz : W1.heap.size = w.heap.size + 2 := by rw [hW1]; simp
  have hT : Two fn a ps assign body w.heap.size .ready none W1 := by rw [hW1]; exact ⟨(two_new w _ _).2, (two_new w _ _).1⟩
  have hB1 : Below w.heap.size w W1 := by rw [hW1]; exact al (al (Below.refl _ _) _) _
  have hI1 : I [] W1 := by rw [hW1]; exact hI.alloc _ (hI.alloc _ h0)
  refine ⟨w.heap.size + 1, [{ target := .collected w.heap.size, args := #[] }], W1, { target := .fn (.func gf) lb, args := #[.func (.yield (w.heap.size + 1)) #[] #[]] }, W1, gf, #[.func (.yield (w.heap.size + 1)) #[] #[]] ++ lb, W1, ?_, ?_, ?_, ?_, fun _ => h1, ?_⟩
  · rw [hW1]; exact run_enterLoop_outer _ _ _ _ _
  · simp only [resolve, hg]; simp [go_sem]
  · intro f hf; simp [Target.leads] at hf; subst hf; exact hFg
  · simp [invoke, go_sem, eg]
  refine (hseq (w.heap.size + 1) (fun pre V => I pre V ∧ Two fn a ps assign body w.heap.size .ready none V) (fun pre V => ∃ c, Ix c pre V ∧ Two fn a ps assign body w.heap.size .done (some c) V) W1 (hb0.trans (hB1.mono hb0.size))
    (fun s A B row hs hg' hr => ⟨hI s A B row hs.1 hg' (fun r e => ⟨by have := (hr r e).1; omega, (hr r e).2⟩), hs.2.far (B := W1.heap.size) (by omega) hg' (fun r e => (hr r e).1)⟩)
    (fun s A B row ⟨c, hc, ht⟩ hg' hr => ⟨c, hIx c s A B row hc hg' (fun r e => ⟨by have := (hr r e).1; omega, (hr r e).2⟩), ht.far (B := W1.heap.size) (by omega) hg' (fun r e => (hr r e).1)⟩) ?round ⟨hI1, hT⟩).mono ?_
  case round =>
    rintro pre x V ⟨hi, ht⟩ hlen
    refine ⟨fn, _, assign, body, run_yield (P := P) (args := encs x) ht.1 (hps x), roundIn_of_wpIn hfn (hassign _ pre x V _ hi ?_)⟩
    intro a' Va hka hba hia hxa
    have hta := ht.keep hka
    refine ⟨_, run_beginRound hta.1 rfl, ?_⟩
    have htb := hta.turn .busy none
    have hbb : Below n₀ Va (Va.putObj (w.heap.size + 1) (.loop (recAt fn a ps assign body w.heap.size .busy none))) := belowK_b hn₀ Va (w.heap.size + 1) _ _ (Nat.le_succ _) hta.1 rfl rfl
    refine wpIn_mono (hbody _ pre x a' _ (Nat.le_succ _) ⟨_, htb.1⟩ (hI.putObj _ hia (Nat.le_succ _) hta.1 rfl) ((hAx x a').putObj (s := ()) _ hxa (Nat.le_succ _) hta.1 rfl) hlen) ?_
    have kr : ∀ V3, KeepsFrom w.heap.size (Va.putObj (w.heap.size + 1) (.loop (recAt fn a ps assign body w.heap.size .busy none))) V3 → ∀ o, KeepsFrom W1.heap.size V (V3.putObj (w.heap.size + 1) o) := fun V3 k3 o => by
      have hle : w.heap.size ≤ W1.heap.size := by omega
      exact (((keeps_up hka hle).trans (keeps_put Va _ (by omega))).trans (keeps_up k3 hle)).trans (keeps_put V3 o (by omega))
    have leave : ∀ c V3, KeepsFrom w.heap.size (Va.putObj (w.heap.size + 1) (.loop (recAt fn a ps assign body w.heap.size .busy none))) V3 → Ix c (pre ++ [x]) V3 → ∃ v V4, (Instr.endRound (w.heap.size + 1) (some c)).run P V3 = .ok v V4 ∧ (KeepsFrom W1.heap.size V V4 ∧ ((Ending.returned v = .returned (.bool true) ∧ (I (pre ++ [x]) V4 ∧ Two fn a ps assign body w.heap.size .ready none V4) ∧ Below n₀ V V4) ∨ (Ending.returned v = .returned (.bool false) ∧ ∃ c, Ix c (pre ++ [x]) V4 ∧ Two fn a ps assign body w.heap.size .done (some c) V4))) := fun c V3 k3 hx3 => by
      have ht3 := htb.keep k3
      exact ⟨_, _, run_endRound (P := P) (some c) ht3.1, kr V3 k3 _, .inr ⟨rfl, c, (hIx c).putObj _ hx3 (Nat.le_succ _) ht3.1 rfl, ht3.turn .done (some c)⟩⟩
    intro e a3 V3 hp
    cases e with
    | normal =>
      obtain ⟨k3, b3, i3⟩ := hp
      have ht3 := htb.keep k3
      exact ⟨_, _, run_endRound (P := P) none ht3.1, kr V3 k3 _, .inl ⟨rfl, ⟨hI.putObj _ i3 (Nat.le_succ _) ht3.1 rfl, ht3.turn .ready none⟩, hba.trans ((hbb.trans b3).trans (belowK_b hn₀ V3 (w.heap.size + 1) _ _ (Nat.le_succ _) ht3.1 rfl rfl))⟩⟩
    | ret => exact leave _ V3 hp.1 hp.2
    | exit id => exact leave _ V3 hp.1 hp.2
    | goto t => exact leave _ V3 hp.1 hp.2
    | panic ch => exact hp.elim
    | outgrown => exact hp.elim
  rintro e V2 ⟨⟨v, rfl⟩, (⟨xs, hS, hi, ht⟩ | ⟨pre, hSp, c, hi, ht⟩)⟩
  · exact ⟨none, _, run_endLoop (P := P) ht.1 (by simp), hdone _ xs _ (Nat.le_refl _) hS (hI.putObj _ hi (Nat.le_succ _) ht.1 rfl) ((World.putObj_heap_other (by omega)).trans ht.2)⟩
  · exact ⟨some c, _, run_endLoop (P := P) ht.1 (by simp), hstop _ c pre _ (Nat.le_refl _) hSp ((hIx c).putObj _ hi (Nat.le_succ _) ht.1 rfl) ((World.putObj_heap_other (by omega)).trans ht.2)⟩
end Go.Proofs.Ytnhjkipaclchiab
