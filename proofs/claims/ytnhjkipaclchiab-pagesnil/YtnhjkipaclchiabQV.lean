import Derived.Test.YtnhjkipaclchiabQY
namespace Go.Proofs.Ytnhjkipaclchiab
set_option linter.unusedVariables false
set_option linter.unusedSimpArgs false
open Go.RowKit Go.Shelf
variable {F : Fence} {n : Nat} {P : Program}
abbrev BlkS := Nat → Prop
/-- the blocks of Z are as they were -/
def KeepZ (Z : BlkS) (V V' : World) : Prop := ∀ k, Z k → V'.heap[k]? = V.heap[k]?
/-- what is said of a state with protected blocks: new blocks may join them, some may be given up; blocks that are no cells may turn from B on -/
structure Gro {β : Type} (B : Nat) (J : β → BlkS → World → Prop) : Prop where
  grow : ∀ s Z V V' row, J s Z V → V.grownBy V' row → (∀ r, row = some r → B ≤ r ∧ ∃ o : Obj, V.heap[r]? = some o ∧ o.isCells = false) → J s (fun k => Z k ∨ (V.heap.size ≤ k ∧ k < V'.heap.size)) V'
  less : ∀ s Z Z' V, J s Z V → (∀ k, Z' k → Z k) → J s Z' V
theorem Gro.turn {β : Type} {B : Nat} {J : β → BlkS → World → Prop} (h : Gro B J) {s : β} {Z : BlkS} {V : World} {l : Nat} {o : Obj} (o' : Obj) (hs : J s Z V) (hB : B ≤ l) (hl : V.heap[l]? = some o) (ho : o.isCells = false) : J s Z (V.putObj l o') :=
  h.less _ _ _ _ (h.grow s Z V _ (some l) hs (grownBy_putObj' V l o') (fun r e => by cases e; exact ⟨hB, o, hl, ho⟩)) (fun k hk => .inl hk)
theorem Gro.new {β : Type} {B : Nat} {J : β → BlkS → World → Prop} (h : Gro B J) {s : β} {Z : BlkS} {V : World} (o : Obj) (hs : J s Z V) : J s Z (V.alloc o) :=
  h.less _ _ _ _ (h.grow s Z V _ none hs (World.grownBy_alloc V o none) (fun r e => by cases e)) (fun k hk => .inl hk)
/-- what lies from B on is no cells -/
def NonC (B : Nat) (W : World) : Prop := ∀ k, B ≤ k → k < W.heap.size → ∃ o : Obj, W.heap[k]? = some o ∧ o.isCells = false
/-- an iterator's contract, with protected blocks -/
def SeqG {α : Type} (F : Fence) (n : Nat) (P : Program) (g : Nat) (lb : Array Value) (encs : α → Array Value) (Z0 : BlkS) (S Sp : List α → Prop) (N : Nat) (w : World) : Prop :=
  ∀ (l : Nat) (J Jx : List α → BlkS → World → Prop) (W : World), Below w.heap.size w W → NonC w.heap.size W → Gro W.heap.size J → Gro W.heap.size Jx →
    (∀ pre Z x V, J pre Z V → pre.length < N → YieldAt F (n - 1) P l (encs x) V fun e V' => KeepsFrom W.heap.size V V' ∧ KeepZ Z V V' ∧ ((e = .returned (.bool true) ∧ J (pre ++ [x]) Z V') ∨ (e = .returned (.bool false) ∧ Jx (pre ++ [x]) Z V'))) →
    J [] Z0 W → CallsIn F n P g (#[.func (.yield l) #[] #[]] ++ lb) W fun e V' => (∃ v, e = .returned v) ∧ ((∃ xs Z, S xs ∧ J xs Z V') ∨ (∃ pre Z, Sp pre ∧ Jx pre Z V'))
/-- how a round's body may be left -/
def postZ {α : Type} (B : Nat) (Z : BlkS) (I : List α → BlkS → World → Prop) (Ix : Code → List α → BlkS → World → Prop) (xs : List α) (W : World) : Exit → Act → World → Prop
  | .normal, _, W' => KeepsFrom B W W' ∧ KeepZ Z W W' ∧ I xs Z W'
  | .ret, _, W' => KeepsFrom B W W' ∧ KeepZ Z W W' ∧ Ix .ret xs Z W'
  | .exit id, _, W' => KeepsFrom B W W' ∧ KeepZ Z W W' ∧ Ix (.exit id) xs Z W'
  | .goto t, _, W' => KeepsFrom B W W' ∧ KeepZ Z W W' ∧ Ix (.goto t) xs Z W'
  | .panic _, _, _ => False
  | .outgrown, _, _ => False
theorem KeepZ.trans {Z : BlkS} {A B C : World} (h : KeepZ Z A B) (k : KeepZ Z B C) : KeepZ Z A C := fun i hi => (k i hi).trans (h i hi)
theorem keepZ_put {Z : BlkS} {l : Nat} (V : World) (o : Obj) (h : ¬ Z l) : KeepZ Z V (V.putObj l o) := fun k hk => World.putObj_heap_other (fun e => h (e ▸ hk))
set_option maxHeartbeats 2000000 in
theorem wpIn_rangeFunc_G {α : Type} {g : Operand} {ps : Array Tmp} {assign body : Code} {Q : Exit → Act → World → Prop} {a : Act} {w : World}
    (hro : F.round = none) (h1 : 1 ≤ n) {gf : Nat} {lb : Array Value} (hg : a.eval g = .func (.func gf) #[] lb) (hFg : F.fn gf) (eg : ∀ args w, (callFunc gf args).run P w = .ok (.enter gf args) w)
    {encs : α → Array Value} {Z0 : BlkS} {S Sp : List α → Prop} {N : Nat} (hseq : SeqG F (n - 1) P gf lb encs Z0 S Sp N w) (hZ0 : ∀ k, Z0 k → k < w.heap.size) (hps : ∀ x, (encs x).size = ps.size)
    (I : List α → BlkS → World → Prop) (Ix : Code → List α → BlkS → World → Prop) (hI : Gro w.heap.size I) (hIx : ∀ c, Gro w.heap.size (Ix c)) (h0 : I [] Z0 w) (Ax : α → Act → World → Prop) (hAx : ∀ x a', OwnFrom w.heap.size (fun (_ : Unit) W => Ax x a' W))
    (hassign : ∀ (l : Nat) (pre : List α) (Z : BlkS) (x : α) (W : World) (K : Act → World → Prop), I pre Z W → (∀ a' W', KeepsFrom w.heap.size W W' → KeepZ Z W W' → I pre Z W' → Ax x a' W' → K a' W') →
      assign.wpIn (F.inRound l) (n - 1 - 1) P (Exit.then K (fun _ _ _ => False)) { tmps := (ps.zip (encs x)).foldl (fun t (p, v) => t.setIfInBounds p v) a.tmps, defers := [] } W)
    (hbody : ∀ (l : Nat) (pre : List α) (Z : BlkS) (x : α) (a' : Act) (W : World), w.heap.size ≤ l → (∃ r, W.heap[l]? = some (.loop r)) → I pre Z W → Ax x a' W → pre.length < N → body.wpIn (F.inRound l) (n - 1 - 1) P (postZ w.heap.size Z I Ix (pre ++ [x]) W) a' W)
    (hdone : ∀ (D : Nat) (xs : List α) (Z : BlkS) (W : World), w.heap.size ≤ D → S xs → I xs Z W → W.heap[D]? = some (.deferred (some [])) → Q .normal { a with defers := { target := .collected D, args := #[] } :: a.defers } W)
    (hstop : ∀ (D : Nat) (c : Code) (pre : List α) (Z : BlkS) (W : World), w.heap.size ≤ D → Sp pre → Ix c pre Z W → W.heap[D]? = some (.deferred (some [])) → c.wpIn F n P Q { a with defers := { target := .collected D, args := #[] } :: a.defers } W) :
    (Code.rangeFunc g ps assign body).wpIn F n P Q a w := by
  refine wpIn_rangeFunc fun fn hfn => ?_
  rw [hro]
  obtain ⟨W1, hW1⟩ : ∃ W1, W1 = (w.alloc (.deferred (some []))).alloc (.loop (recAt fn a ps assign body w.heap.size .ready none)) := ⟨_, rfl⟩
  have hsz : W1.heap.size = w.heap.size + 2 := by rw [hW1]; simp
  have hT : Two fn a ps assign body w.heap.size .ready none W1 := by rw [hW1]; exact ⟨(two_new w _ _).2, (two_new w _ _).1⟩
  have hB1 : Below w.heap.size w W1 := by rw [hW1]; exact al (al (Below.refl _ _) _) _
  have hI1 : I [] Z0 W1 := by rw [hW1]; exact hI.new _ (hI.new _ h0)
  refine ⟨w.heap.size + 1, [{ target := .collected w.heap.size, args := #[] }], W1, { target := .fn (.func gf) lb, args := #[.func (.yield (w.heap.size + 1)) #[] #[]] }, W1, gf, #[.func (.yield (w.heap.size + 1)) #[] #[]] ++ lb, W1, ?_, ?_, ?_, ?_, fun _ => h1, ?_⟩
  · rw [hW1]; exact run_enterLoop_outer _ _ _ _ _
  · simp only [resolve, hg]; simp [go_sem]
  · intro f hf; simp [Target.leads] at hf; subst hf; exact hFg
  · simp [invoke, go_sem, eg]
  have gro : ∀ {J : List α → BlkS → World → Prop} {st : LoopState} {pe : Option Code}, Gro w.heap.size J → Gro W1.heap.size (fun s Z V => J s Z V ∧ Two fn a ps assign body w.heap.size st pe V ∧ ¬ Z (w.heap.size + 1)) := fun hJ => ⟨fun s Z V V' row hs hg' hr => ⟨hJ.grow s Z V V' row hs.1 hg' (fun r e => ⟨by have := (hr r e).1; omega, (hr r e).2⟩), hs.2.1.far (B := W1.heap.size) (by omega) hg' (fun r e => (hr r e).1), fun hz => by
      rcases hz with hz | ⟨hz, -⟩
      · exact hs.2.2 hz
      · have := hs.2.1.lt; omega⟩, fun s Z Z' V hs hz => ⟨hJ.less s Z Z' V hs.1 hz, hs.2.1, fun h9 => hs.2.2 (hz _ h9)⟩⟩
  refine (hseq (w.heap.size + 1) (fun pre Z V => I pre Z V ∧ Two fn a ps assign body w.heap.size .ready none V ∧ ¬ Z (w.heap.size + 1)) (fun pre Z V => ∃ c, Ix c pre Z V ∧ Two fn a ps assign body w.heap.size .done (some c) V ∧ ¬ Z (w.heap.size + 1)) W1 hB1 (fun k h2 h3 => by
      have : k = w.heap.size ∨ k = w.heap.size + 1 := by omega
      rcases this with rfl | rfl
      · exact ⟨_, hT.2, rfl⟩
      · exact ⟨_, hT.1, rfl⟩)
    (gro hI) ⟨fun s Z V V' row ⟨c, hc⟩ hg' hr => ⟨c, (gro (hIx c)).grow s Z V V' row hc hg' hr⟩, fun s Z Z' V ⟨c, hc⟩ hz => ⟨c, (gro (hIx c)).less s Z Z' V hc hz⟩⟩ ?round ⟨hI1, hT, fun h9 => by have := hZ0 _ h9; omega⟩).mono ?_
  case round =>
    rintro pre Z x V ⟨hi, ht, hzn⟩ hlen
    refine ⟨fn, _, assign, body, run_yield (P := P) (args := encs x) ht.1 (hps x), roundIn_of_wpIn hfn (hassign _ pre Z x V _ hi ?_)⟩
    intro a' Va hka hza hia hxa
    have hta := ht.keep hka
    refine ⟨_, run_beginRound hta.1 rfl, ?_⟩
    have htb := hta.turn .busy none
    refine wpIn_mono (hbody _ pre Z x a' _ (Nat.le_succ _) ⟨_, htb.1⟩ (hI.turn _ hia (Nat.le_succ _) hta.1 rfl) ((hAx x a').putObj (s := ()) _ hxa (Nat.le_succ _) hta.1 rfl) hlen) ?_
    have kr : ∀ V3, KeepsFrom w.heap.size (Va.putObj (w.heap.size + 1) (.loop (recAt fn a ps assign body w.heap.size .busy none))) V3 → KeepZ Z (Va.putObj (w.heap.size + 1) (.loop (recAt fn a ps assign body w.heap.size .busy none))) V3 → ∀ o, KeepsFrom W1.heap.size V (V3.putObj (w.heap.size + 1) o) ∧ KeepZ Z V (V3.putObj (w.heap.size + 1) o) := fun V3 k3 z3 o => by
      have hle : w.heap.size ≤ W1.heap.size := by omega
      exact ⟨(((keeps_up hka hle).trans (keeps_put Va _ (by omega))).trans (keeps_up k3 hle)).trans (keeps_put V3 o (by omega)), ((hza.trans (keepZ_put Va _ hzn)).trans z3).trans (keepZ_put V3 o hzn)⟩
    have leave : ∀ c V3, KeepsFrom w.heap.size (Va.putObj (w.heap.size + 1) (.loop (recAt fn a ps assign body w.heap.size .busy none))) V3 → KeepZ Z (Va.putObj (w.heap.size + 1) (.loop (recAt fn a ps assign body w.heap.size .busy none))) V3 → Ix c (pre ++ [x]) Z V3 → ∃ v V4, (Instr.endRound (w.heap.size + 1) (some c)).run P V3 = .ok v V4 ∧ (KeepsFrom W1.heap.size V V4 ∧ KeepZ Z V V4 ∧ ((Ending.returned v = .returned (.bool true) ∧ (I (pre ++ [x]) Z V4 ∧ Two fn a ps assign body w.heap.size .ready none V4 ∧ ¬ Z (w.heap.size + 1))) ∨ (Ending.returned v = .returned (.bool false) ∧ ∃ c, Ix c (pre ++ [x]) Z V4 ∧ Two fn a ps assign body w.heap.size .done (some c) V4 ∧ ¬ Z (w.heap.size + 1)))) := fun c V3 k3 z3 hx3 => by
      have ht3 := htb.keep k3
      exact ⟨_, _, run_endRound (P := P) (some c) ht3.1, (kr V3 k3 z3 _).1, (kr V3 k3 z3 _).2, .inr ⟨rfl, c, (hIx c).turn _ hx3 (Nat.le_succ _) ht3.1 rfl, ht3.turn .done (some c), hzn⟩⟩
    intro e a3 V3 hp
    cases e with
    | normal =>
      obtain ⟨k3, z3, i3⟩ := hp
      have ht3 := htb.keep k3
      exact ⟨_, _, run_endRound (P := P) none ht3.1, (kr V3 k3 z3 _).1, (kr V3 k3 z3 _).2, .inl ⟨rfl, hI.turn _ i3 (Nat.le_succ _) ht3.1 rfl, ht3.turn .ready none, hzn⟩⟩
    | ret => exact leave _ V3 hp.1 hp.2.1 hp.2.2
    | exit id => exact leave _ V3 hp.1 hp.2.1 hp.2.2
    | goto t => exact leave _ V3 hp.1 hp.2.1 hp.2.2
    | panic ch => exact hp.elim
    | outgrown => exact hp.elim
  rintro e V2 ⟨⟨v, rfl⟩, (⟨xs, Z, hS, hi, ht, -⟩ | ⟨pre, Z, hSp, c, hi, ht, -⟩)⟩
  · exact ⟨none, _, run_endLoop (P := P) ht.1 (by simp), hdone _ xs Z _ (Nat.le_refl _) hS (hI.turn _ hi (Nat.le_succ _) ht.1 rfl) ((World.putObj_heap_other (by omega)).trans ht.2)⟩
  · exact ⟨some c, _, run_endLoop (P := P) ht.1 (by simp), hstop _ c pre Z _ (Nat.le_refl _) hSp ((hIx c).turn _ hi (Nat.le_succ _) ht.1 rfl) ((World.putObj_heap_other (by omega)).trans ht.2)⟩
end Go.Proofs.Ytnhjkipaclchiab
