import Derived.RangeFuncNested
import Derived.RangeFuncBound
import Derived.RangeFuncCalls
import Derived.RangeFuncLeaves
import Derived.Shelf.Abstract
import Derived.Shelf.RegionOpen
import Derived.WalkKit
import Derived.OwnWalkIn
import Derived.TacticsInMore
import Derived.LoopNIn
import Derived.LoopIn
import Derived.Test.YtibepnilhmbpeaaDoorSNd
namespace Go.Proofs.YtibepnilhmbpeaaDoor
set_option linter.unusedVariables false
set_option linter.unusedSimpArgs false
open Go.RowKit Go.Shelf
variable {F : Fence} {n : Nat} {P : Program}
theorem two_newR (w : World) (o1 o2 : Obj) : ((w.alloc o1).alloc o2).heap[w.heap.size]? = some o1 ∧ ((w.alloc o1).alloc o2).heap[w.heap.size + 1]? = some o2 :=
  ⟨((alS (Below.refl _ _) _).block w.heap.size (by simp)).trans (heap_alloc_new w o1), by have := heap_alloc_new (w.alloc o1) o2; simpa using this⟩
theorem keeps_up {B C : Nat} {V V' : World} (h : KeepsFrom B V V') (hBC : B ≤ C) : KeepsFrom C V V' := ⟨h.size, fun k o hk h1 h2 => h.same k o (Nat.le_trans hBC hk) h1 h2⟩
theorem keeps_put {B l : Nat} (V : World) (o : Obj) (hl : l < B) : KeepsFrom B V (V.putObj l o) := KeepsFrom.of_grownBy (grownBy_putObj' V l o) (fun j e => by cases e; exact hl)
/-- the record of the loop that was entered in w, in a state -/
abbrev recAt (fn : FuncId) (a : Act) (ps : Array Tmp) (assign body : Code) (D : Nat) (st : LoopState) (pe : Option Code) : Loop := { state := st, pending := pe, fn, tmps := a.tmps, params := ps, assign, body, defers := D }
/-- the loop's two blocks: the record and what its rounds have deferred -/
def Two (fn : FuncId) (a : Act) (ps : Array Tmp) (assign body : Code) (D : Nat) (st : LoopState) (pe : Option Code) (V : World) : Prop :=
  V.heap[D + 1]? = some (.loop (recAt fn a ps assign body D st pe)) ∧ V.heap[D]? = some (.deferred (some []))
section
variable {fn : FuncId} {a : Act} {ps : Array Tmp} {assign body : Code} {D : Nat} {st : LoopState} {pe : Option Code} {V V' : World}
theorem Two.lt (h : Two fn a ps assign body D st pe V) : D + 1 < V.heap.size := (Array.getElem?_eq_some_iff.1 h.1).1
theorem Two.keep (h : Two fn a ps assign body D st pe V) (k : KeepsFrom D V V') : Two fn a ps assign body D st pe V' := ⟨k.same _ _ (Nat.le_succ _) h.1 rfl, k.same _ _ (Nat.le_refl _) h.2 rfl⟩
theorem Two.turn (h : Two fn a ps assign body D st pe V) (st' : LoopState) (pe' : Option Code) : Two fn a ps assign body D st' pe' (V.putObj (D + 1) (.loop (recAt fn a ps assign body D st' pe'))) :=
  ⟨World.putObj_heap_same h.lt, (World.putObj_heap_other (by omega)).trans h.2⟩
theorem Two.far {B : Nat} (h : Two fn a ps assign body D st pe V) (hB : D + 1 < B) {row : Option Nat} (hg : V.grownBy V' row) (hr : ∀ r, row = some r → B ≤ r) : Two fn a ps assign body D st pe V' :=
  ⟨(hg.block _ h.lt (fun e => by have := hr _ e.symm; omega)).trans h.1, (hg.block _ (Nat.lt_of_succ_lt h.lt) (fun e => by have := hr _ e.symm; omega)).trans h.2⟩
end
abbrev BlkS := Nat → Prop
/-- the blocks of Z are as they were -/
def KeepZ (Z : BlkS) (V V' : World) : Prop := ∀ k, Z k → V'.heap[k]? = V.heap[k]?
/-- what is said of a state with protected blocks: new blocks may join them, some may be given up; blocks that are no cells may turn from B on -/
structure Gro {β : Type} (B : Nat) (J : β → BlkS → World → Prop) : Prop where
  grow : ∀ s Z V V' row, J s Z V → V.grownBy V' row → (∀ r, row = some r → B ≤ r ∧ ∃ o : Obj, V.heap[r]? = some o ∧ o.isCells = false) → J s (fun k => Z k ∨ (V.heap.size ≤ k ∧ k < V'.heap.size)) V'
  less : ∀ s Z Z' V, J s Z V → (∀ k, Z' k → Z k) → J s Z' V
theorem Gro.turn {β : Type} {B : Nat} {J : β → BlkS → World → Prop} (h : Gro B J) {s : β} {Z : BlkS} {V : World} {l : Nat} {o : Obj} (o' : Obj) (hs : J s Z V) (hB : B ≤ l) (hl : V.heap[l]? = some o) (ho : o.isCells = false) : J s Z (V.putObj l o') :=
  h.less _ _ _ _ (h.grow s Z V _ (some l) hs (grownBy_putObj' V l o') (fun r e => by cases e; exact ⟨hB, o, hl, ho⟩)) (fun k hk => .inl hk)
theorem Gro.new {β : Type} {B : Nat} {J : β → BlkS → World → Prop} (h : Gro B J) {s : β} {Z : BlkS} {V : World} (o : Obj) (hs : J s Z V) : J s Z (V.alloc o) :=
  h.less _ _ _ _ (h.grow s Z V _ none hs (World.grownBy_alloc V o none) (fun r e => by cases e)) (fun k hk => .inl hk)
/-- what lies from B on is no cells -/
def NonC (B : Nat) (W : World) : Prop := ∀ k, B ≤ k → k < W.heap.size → ∃ o : Obj, W.heap[k]? = some o ∧ o.isCells = false
/-- an iterator's contract, with protected blocks; At: what is known of the element that comes -/
def SeqG {α : Type} (F : Fence) (n : Nat) (P : Program) (g : Nat) (lb : Array Value) (encs : α → Array Value) (At : List α → α → BlkS → World → Prop) (Z0 : BlkS) (S Sp : List α → Prop) (w : World) : Prop :=
  ∀ (l : Nat) (J Jx : List α → BlkS → World → Prop) (W : World), Below w.heap.size w W → NonC w.heap.size W → Gro W.heap.size J → Gro W.heap.size Jx →
    (∀ pre Z x V, J pre Z V → At pre x Z V → YieldAt F (n - 1) P l (encs x) V fun e V' => KeepsFrom W.heap.size V V' ∧ KeepZ Z V V' ∧ ((e = .returned (.bool true) ∧ J (pre ++ [x]) Z V') ∨ (e = .returned (.bool false) ∧ Jx (pre ++ [x]) Z V'))) →
    J [] Z0 W → CallsIn F n P g (#[.func (.yield l) #[] #[]] ++ lb) W fun e V' => (∃ v, e = .returned v) ∧ ((∃ xs Z, S xs ∧ J xs Z V') ∨ (∃ pre Z, Sp pre ∧ Jx pre Z V'))
/-- how a round's body may be left -/
def postZ {α : Type} (B : Nat) (Z : BlkS) (I : List α → BlkS → World → Prop) (Ix : Code → List α → BlkS → World → Prop) (xs : List α) (W : World) : Exit → Act → World → Prop
  | .normal, _, W' => KeepsFrom B W W' ∧ KeepZ Z W W' ∧ I xs Z W'
  | .ret, _, W' => KeepsFrom B W W' ∧ KeepZ Z W W' ∧ Ix .ret xs Z W'
  | .exit id, _, W' => KeepsFrom B W W' ∧ KeepZ Z W W' ∧ Ix (.exit id) xs Z W'
  | .goto t, _, W' => KeepsFrom B W W' ∧ KeepZ Z W W' ∧ Ix (.goto t) xs Z W'
  | .panic _, _, _ => False
  | .outgrown, _, _ => False
theorem KeepZ.trans {Z : BlkS} {A B C : World} (h : KeepZ Z A B) (k : KeepZ Z B C) : KeepZ Z A C := fun i hi => (k i hi).trans (h i hi)
theorem keepZ_put {Z : BlkS} {l : Nat} (V : World) (o : Obj) (h : ¬ Z l) : KeepZ Z V (V.putObj l o) := fun k hk => World.putObj_heap_other (fun e => h (e ▸ hk))
set_option maxHeartbeats 2000000 in
theorem wpIn_rangeFunc_G {α : Type} {g : Operand} {ps : Array Tmp} {assign body : Code} {Q : Exit → Act → World → Prop} {a : Act} {w : World}
    (hro : F.round = none) (h1 : 1 ≤ n) {gf : Nat} {lb : Array Value} (hg : a.eval g = .func (.func gf) #[] lb) (hFg : F.fn gf) (eg : ∀ args w, (callFunc gf args).run P w = .ok (.enter gf args) w)
    {encs : α → Array Value} {At : List α → α → BlkS → World → Prop} {Z0 : BlkS} {S Sp : List α → Prop} (hseq : SeqG F (n - 1) P gf lb encs At Z0 S Sp w) (hAt : ∀ pre x Z V l o o', At pre x Z V → V.heap[l]? = some o → o.isCells = false → At pre x Z (V.putObj l o')) (hZ0 : ∀ k, Z0 k → k < w.heap.size) (hps : ∀ x, (encs x).size = ps.size)
    (I : List α → BlkS → World → Prop) (Ix : Code → List α → BlkS → World → Prop) (hI : Gro w.heap.size I) (hIx : ∀ c, Gro w.heap.size (Ix c)) (h0 : I [] Z0 w) (Ax : α → Act → World → Prop) (hAx : ∀ x a', OwnFrom w.heap.size (fun (_ : Unit) W => Ax x a' W))
    (hassign : ∀ (l : Nat) (pre : List α) (Z : BlkS) (x : α) (W : World) (K : Act → World → Prop), I pre Z W → At pre x Z W → (∀ a' W', KeepsFrom w.heap.size W W' → KeepZ Z W W' → I pre Z W' → At pre x Z W' → Ax x a' W' → K a' W') →
      assign.wpIn (F.inRound l) (n - 1 - 1) P (Exit.then K (fun _ _ _ => False)) { tmps := (ps.zip (encs x)).foldl (fun t (p, v) => t.setIfInBounds p v) a.tmps, defers := [] } W)
    (hbody : ∀ (l : Nat) (pre : List α) (Z : BlkS) (x : α) (a' : Act) (W : World), w.heap.size ≤ l → (∃ r, W.heap[l]? = some (.loop r)) → I pre Z W → At pre x Z W → Ax x a' W → body.wpIn (F.inRound l) (n - 1 - 1) P (postZ w.heap.size Z I Ix (pre ++ [x]) W) a' W)
    (hdone : ∀ (D : Nat) (xs : List α) (Z : BlkS) (W : World), w.heap.size ≤ D → S xs → I xs Z W → W.heap[D]? = some (.deferred (some [])) → Q .normal { a with defers := { target := .collected D, args := #[] } :: a.defers } W)
    (hstop : ∀ (D : Nat) (c : Code) (pre : List α) (Z : BlkS) (W : World), w.heap.size ≤ D → Sp pre → Ix c pre Z W → W.heap[D]? = some (.deferred (some [])) → c.wpIn F n P Q { a with defers := { target := .collected D, args := #[] } :: a.defers } W) :
    (Code.rangeFunc g ps assign body).wpIn F n P Q a w := by
  refine wpIn_rangeFunc fun fn hfn => ?_
  rw [hro]
  obtain ⟨W1, hW1⟩ : ∃ W1, W1 = (w.alloc (.deferred (some []))).alloc (.loop (recAt fn a ps assign body w.heap.size .ready none)) := ⟨_, rfl⟩
  have hsz : W1.heap.size = w.heap.size + 2 := by rw [hW1]; simp
  have hT : Two fn a ps assign body w.heap.size .ready none W1 := by rw [hW1]; exact ⟨(two_newR w _ _).2, (two_newR w _ _).1⟩
  have hB1 : Below w.heap.size w W1 := by rw [hW1]; exact alS (alS (Below.refl _ _) _) _
  have hI1 : I [] Z0 W1 := by rw [hW1]; exact hI.new _ (hI.new _ h0)
  refine ⟨w.heap.size + 1, [{ target := .collected w.heap.size, args := #[] }], W1, { target := .fn (.func gf) lb, args := #[.func (.yield (w.heap.size + 1)) #[] #[]] }, W1, gf, #[.func (.yield (w.heap.size + 1)) #[] #[]] ++ lb, W1, ?_, ?_, ?_, ?_, fun _ => h1, ?_⟩
  · rw [hW1]; exact run_enterLoop_outer _ _ _ _ _
  · simp only [resolve, hg]; simp [go_sem]
  · intro f hf; simp [Target.leads] at hf; subst hf; exact hFg
  · simp [invoke, go_sem, eg]
  have gro : ∀ {J : List α → BlkS → World → Prop} {st : LoopState} {pe : Option Code}, Gro w.heap.size J → Gro W1.heap.size (fun s Z V => J s Z V ∧ Two fn a ps assign body w.heap.size st pe V ∧ ¬ Z (w.heap.size + 1)) := fun hJ => ⟨fun s Z V V' row hs hg' hr => ⟨hJ.grow s Z V V' row hs.1 hg' (fun r e => ⟨by have := (hr r e).1; omega, (hr r e).2⟩), hs.2.1.far (B := W1.heap.size) (by omega) hg' (fun r e => (hr r e).1), fun hz => by
      rcases hz with hz | ⟨hz, -⟩
      · exact hs.2.2 hz
      · have := hs.2.1.lt; omega⟩, fun s Z Z' V hs hz => ⟨hJ.less s Z Z' V hs.1 hz, hs.2.1, fun h9 => hs.2.2 (hz _ h9)⟩⟩
  refine (hseq (w.heap.size + 1) (fun pre Z V => I pre Z V ∧ Two fn a ps assign body w.heap.size .ready none V ∧ ¬ Z (w.heap.size + 1)) (fun pre Z V => ∃ c, Ix c pre Z V ∧ Two fn a ps assign body w.heap.size .done (some c) V ∧ ¬ Z (w.heap.size + 1)) W1 hB1 (fun k h2 h3 => by
      have : k = w.heap.size ∨ k = w.heap.size + 1 := by omega
      rcases this with rfl | rfl
      · exact ⟨_, hT.2, rfl⟩
      · exact ⟨_, hT.1, rfl⟩)
    (gro hI) ⟨fun s Z V V' row ⟨c, hc⟩ hg' hr => ⟨c, (gro (hIx c)).grow s Z V V' row hc hg' hr⟩, fun s Z Z' V ⟨c, hc⟩ hz => ⟨c, (gro (hIx c)).less s Z Z' V hc hz⟩⟩ ?round ⟨hI1, hT, fun h9 => by have := hZ0 _ h9; omega⟩).mono ?_
  case round =>
    rintro pre Z x V ⟨hi, ht, hzn⟩ hat
    refine ⟨fn, _, assign, body, run_yield (P := P) (args := encs x) ht.1 (hps x), roundIn_of_wpIn hfn (hassign _ pre Z x V _ hi hat ?_)⟩
    intro a' Va hka hza hia hata hxa
    have hta := ht.keep hka
    refine ⟨_, run_beginRound hta.1 rfl, ?_⟩
    have htb := hta.turn .busy none
    refine wpIn_mono (hbody _ pre Z x a' _ (Nat.le_succ _) ⟨_, htb.1⟩ (hI.turn _ hia (Nat.le_succ _) hta.1 rfl) (hAt _ _ _ _ _ _ _ hata hta.1 rfl) ((hAx x a').putObj (s := ()) _ hxa (Nat.le_succ _) hta.1 rfl)) ?_
    have kr : ∀ V3, KeepsFrom w.heap.size (Va.putObj (w.heap.size + 1) (.loop (recAt fn a ps assign body w.heap.size .busy none))) V3 → KeepZ Z (Va.putObj (w.heap.size + 1) (.loop (recAt fn a ps assign body w.heap.size .busy none))) V3 → ∀ o, KeepsFrom W1.heap.size V (V3.putObj (w.heap.size + 1) o) ∧ KeepZ Z V (V3.putObj (w.heap.size + 1) o) := fun V3 k3 z3 o => by
      have hle : w.heap.size ≤ W1.heap.size := by omega
      exact ⟨(((keeps_up hka hle).trans (keeps_put Va _ (by omega))).trans (keeps_up k3 hle)).trans (keeps_put V3 o (by omega)), ((hza.trans (keepZ_put Va _ hzn)).trans z3).trans (keepZ_put V3 o hzn)⟩
    have leave : ∀ c V3, KeepsFrom w.heap.size (Va.putObj (w.heap.size + 1) (.loop (recAt fn a ps assign body w.heap.size .busy none))) V3 → KeepZ Z (Va.putObj (w.heap.size + 1) (.loop (recAt fn a ps assign body w.heap.size .busy none))) V3 → Ix c (pre ++ [x]) Z V3 → ∃ v V4, (Instr.endRound (w.heap.size + 1) (some c)).run P V3 = .ok v V4 ∧ (KeepsFrom W1.heap.size V V4 ∧ KeepZ Z V V4 ∧ ((Ending.returned v = .returned (.bool true) ∧ (I (pre ++ [x]) Z V4 ∧ Two fn a ps assign body w.heap.size .ready none V4 ∧ ¬ Z (w.heap.size + 1))) ∨ (Ending.returned v = .returned (.bool false) ∧ ∃ c, Ix c (pre ++ [x]) Z V4 ∧ Two fn a ps assign body w.heap.size .done (some c) V4 ∧ ¬ Z (w.heap.size + 1)))) := fun c V3 k3 z3 hx3 => by
      have ht3 := htb.keep k3
      exact ⟨_, _, run_endRound (P := P) (some c) ht3.1, (kr V3 k3 z3 _).1, (kr V3 k3 z3 _).2, .inr ⟨rfl, c, (hIx c).turn _ hx3 (Nat.le_succ _) ht3.1 rfl, ht3.turn .done (some c), hzn⟩⟩
    intro e a3 V3 hp
    cases e with
    | normal =>
      obtain ⟨k3, z3, i3⟩ := hp
      have ht3 := htb.keep k3
      exact ⟨_, _, run_endRound (P := P) none ht3.1, (kr V3 k3 z3 _).1, (kr V3 k3 z3 _).2, .inl ⟨rfl, hI.turn _ i3 (Nat.le_succ _) ht3.1 rfl, ht3.turn .ready none, hzn⟩⟩
    | ret => exact leave _ V3 hp.1 hp.2.1 hp.2.2
    | exit id => exact leave _ V3 hp.1 hp.2.1 hp.2.2
    | goto t => exact leave _ V3 hp.1 hp.2.1 hp.2.2
    | panic ch => exact hp.elim
    | outgrown => exact hp.elim
  rintro e V2 ⟨⟨v, rfl⟩, (⟨xs, Z, hS, hi, ht, -⟩ | ⟨pre, Z, hSp, c, hi, ht, -⟩)⟩
  · exact ⟨none, _, run_endLoop (P := P) ht.1 (by simp), hdone _ xs Z _ (Nat.le_refl _) hS (hI.turn _ hi (Nat.le_succ _) ht.1 rfl) ((World.putObj_heap_other (by omega)).trans ht.2)⟩
  · exact ⟨some c, _, run_endLoop (P := P) ht.1 (by simp), hstop _ c pre Z _ (Nat.le_refl _) hSp ((hIx c).turn _ hi (Nat.le_succ _) ht.1 rfl) ((World.putObj_heap_other (by omega)).trans ht.2)⟩
end Go.Proofs.YtibepnilhmbpeaaDoor
namespace Go.Proofs.YtibepnilhmbpeaaDoor
set_option linter.unusedVariables false
set_option linter.unusedSimpArgs false
open Go.RowKit Go.Shelf
abbrev encN (x : Nb) : Array Value := #[.int .u64 (x.n : Int), x.v]
/-- the record that comes -/
structure AtN (R : List (Nat × List UInt8)) (B : Nat) (pre : List Nb) (x : Nb) (Z : BlkS) (V : World) : Prop where
  ex : ∃ r, R[pre.length]? = some r ∧ x.n = r.1 ∧ Own V B x.v r.2
  nz : ∀ b, x.v.ownBlock = some b → ¬ Z b
theorem AtN.put {R : List (Nat × List UInt8)} {B : Nat} {pre : List Nb} {x : Nb} {Z : BlkS} {V : World} {l : Nat} {o o' : Obj} (h : AtN R B pre x Z V) (hl : V.heap[l]? = some o) (ho : o.isCells = false) : AtN R B pre x Z (V.putObj l o') := by
  obtain ⟨r, h1, h2, h3⟩ := h.ex
  refine ⟨⟨r, h1, h2, ownKept h3 (fun b hb => World.putObj_heap_other (fun e => ?_))⟩, h.nz⟩
  subst e
  rcases h3.2 with ⟨e, -⟩ | ⟨g, cap, cur, e, -, hg, -⟩
  · rw [e] at hb; cases hb
  · rw [e] at hb; cases hb
    rw [hg] at hl; cases hl; cases ho
/-- amid Records: the row, and the records that are still to come -/
structure RecK (w : World) (B k : Nat) (v : Value) (N : List Nb) (R : List (Nat × List UInt8)) (Z : BlkS) : Prop where
  row : OwnG KN w B v N
  len : N.length = R.length
  at_ : ∀ (i : Nat) x r, k ≤ i → N[i]? = some x → R[i]? = some r → x.n = r.1 ∧ Own w B x.v r.2
  ap : ∀ (i j : Nat) x y b, N[i]? = some x → N[j]? = some y → i < j → x.v.ownBlock = some b → y.v.ownBlock = some b → False
  zr : ∀ b, v.ownBlock = some b → Z b
  za : ∀ (i : Nat) x b, k ≤ i → N[i]? = some x → x.v.ownBlock = some b → Z b
theorem RecK.kept {w w' : World} {B k : Nat} {v : Value} {N : List Nb} {R : List (Nat × List UInt8)} {Z : BlkS} (h : RecK w B k v N R Z) (hk : KeepZ Z w w') : RecK w' B k v N R Z :=
  ⟨h.row.kept (fun b e => hk b (h.zr b e)), h.len, fun i x r h0 h1 h2 => ⟨(h.at_ i x r h0 h1 h2).1, ownKept (h.at_ i x r h0 h1 h2).2 (fun b e => hk b (h.za i x b h0 h1 e))⟩, h.ap, h.zr, h.za⟩
theorem RecK.more {w : World} {B k : Nat} {v : Value} {N : List Nb} {R : List (Nat × List UInt8)} {Z Z' : BlkS} (h : RecK w B k v N R Z) (hz : ∀ b, Z b → Z' b) : RecK w B k v N R Z' := ⟨h.row, h.len, h.at_, h.ap, fun b e => hz b (h.zr b e), fun i x b h0 h1 e => hz b (h.za i x b h0 h1 e)⟩
theorem RecK.below {w w' : World} {B k : Nat} {v : Value} {N : List Nb} {R : List (Nat × List UInt8)} {Z : BlkS} (h : RecK w B k v N R Z) (hb : Below w.heap.size w w') : RecK w' B k v N R Z :=
  ⟨h.row.below hb, h.len, fun i x r h0 h1 h2 => ⟨(h.at_ i x r h0 h1 h2).1, Own.below (h.at_ i x r h0 h1 h2).2 hb⟩, h.ap, h.zr, h.za⟩
/-- the next one is given up -/
theorem RecK.next {w : World} {B k : Nat} {v : Value} {N : List Nb} {R : List (Nat × List UInt8)} {Z : BlkS} (h : RecK w B k v N R Z) {x : Nb} (hx : N[k]? = some x) : RecK w B (k + 1) v N R (fun b => Z b ∧ ¬ x.v.ownBlock = some b) := by
  have hkR : k < R.length := by rw [← h.len]; exact (List.getElem?_eq_some_iff.1 hx).1
  refine ⟨h.row, h.len, fun i y r h0 => h.at_ i y r (by omega), h.ap, fun b e => ⟨h.zr b e, fun e9 => ?_⟩, fun i y b h0 h1 e => ⟨h.za i y b (by omega) h1 e, fun e9 => h.ap k i x y b hx h1 (by omega) e9 e⟩⟩
  obtain ⟨cur, h9⟩ := h.row.at_ e
  have ho := (h.at_ k x R[k] (Nat.le_refl _) hx (List.getElem?_eq_getElem hkR)).2
  rcases ho.2 with ⟨e8, -⟩ | ⟨g, cap, cur2, e8, -, hg, -⟩
  · rw [e8] at e9; cases e9
  · rw [e8] at e9; cases e9
    rw [hg] at h9
    cases h9
section
set_option maxHeartbeats 2000000
set_option maxRecDepth 100000
/-- Records' closure -/
theorem srecG {w : World} {g p n m0 gl gn : Nat} {x : Lg} {sa : Option Addr} {sc : Nat} {d : Dst} {F : Nat → Prop} (h : LogM w g p x sa sc d n F) (hf : x.fl = false) (ho : d.off = false) (hsm : ∀ s ∈ x.L, s.n < 18446744073709551616)
    (hcl : w.cell? ⟨gl, 0, none⟩ = some (.pointer (some ⟨g, 0, none⟩))) (hcn : w.cell? ⟨gn, 0, none⟩ = some (.int .u64 (m0 : Int))) (nf : Nat) (hn : 2 ≤ nf) (Z0 : BlkS) (R : List (Nat × List UInt8)) (hR : R = fromL d x.A x.Z x.h.e (x.L.drop (cntB x.L m0))) :
    SeqG Fence.wide nf Tryd.prog 47 #[.pointer (some ⟨gl, 0, none⟩), .pointer (some ⟨gn, 0, none⟩)] encN (AtN R w.heap.size) Z0 (fun xs => xs.length = R.length) (fun pre => pre.length ≤ R.length) w := by
  intro l J Jx W hW hNC hJ hJx hY h0
  have hclW : W.cell? ⟨gl, 0, none⟩ = some (.pointer (some ⟨g, 0, none⟩)) := (hW.cell (p := ⟨gl, 0, none⟩) (World.block_lt_of_cell? w _ hcl)).trans hcl
  have hcnW : W.cell? ⟨gn, 0, none⟩ = some (.int .u64 (m0 : Int)) := (hW.cell (p := ⟨gn, 0, none⟩) (World.block_lt_of_cell? w _ hcn)).trans hcn
  have hfr := sfrom_t (m0 := m0) (h.below hW) hf ho hsm
  rw [← hR] at hfr
  have HFR : Hid _ := hfr
  have HJ : Hid (Gro W.heap.size J) := hJ
  have HJX : Hid (Gro W.heap.size Jx) := hJx
  have HY : Hid _ := hY
  have HJ0 : Hid (J [] Z0 W) := h0
  have HWB : Hid (Below w.heap.size w W) := hW
  clear hfr hR h hf ho hsm hcl hcn hJ hJx hY h0 hNC hW
  refine callsIn_of_wp Tryd.func47 rfl trivial ?_ rfl
  simp only [Tryd.ntmps47, List.size_toArray, List.length_cons, List.length_nil, Nat.reduceAdd, Nat.reduceSub, Array.replicate_succ, Array.replicate_zero, List.push_toArray, List.append_toArray, List.nil_append, List.cons_append]
  gi_wp2
  refine ⟨trivial, fun _ => by omega, ?_⟩
  refine (callsIn_wide.2 HFR.out).mono ?_
  rintro e W2 ⟨⟨v, N, rfl, hnb⟩, hb2⟩
  obtain ⟨a, c, hv, hmc, -, -, hrd⟩ := OwnG.val hnb.row
  obtain ⟨m, hm⟩ : ∃ m, m = N.length := ⟨_, rfl⟩
  have HM : Hid (m = N.length) := hm
  rw [← hm] at hv
  subst hv
  have hk0 : RecK W2 W.heap.size 0 (.slice a m c) N R (fun b => Z0 b ∨ (W.heap.size ≤ b ∧ b < W2.heap.size)) := ⟨hnb.row, hnb.len, fun i x r _ => hnb.at_ i x r, hnb.ap, fun b e => .inr ⟨(hnb.row.lt' e).1, (hnb.row.lt' e).2⟩, fun i x b _ h1 e => .inr (hnb.lt h1 e)⟩
  have HK0 : Hid _ := hk0
  have HJ2 : Hid (J [] (fun b => Z0 b ∨ (W.heap.size ≤ b ∧ b < W2.heap.size)) W2) := HJ.out.grow [] Z0 W W2 none HJ0.out ⟨hb2.os, hb2.tape, hb2.output, hb2.size, fun k hk _ => hb2.block k hk⟩ (fun r e => by cases e)
  have HRL : Hid (m = R.length) := by unfold Hid; rw [hm, hnb.len]
  have HMB : Hid (m ≤ 9223372036854775807) := by
    unfold Hid
    have h9 := hmc
    rw [← hm] at h9
    have h8 : c ≤ maxLen := by
      rcases hnb.row.2 with ⟨e, -⟩ | ⟨g9, cap, cur, e, -, -, -, h7, -⟩
      · cases e; exact Nat.zero_le _
      · cases e; exact h7
    simp only [maxLen] at h8
    omega
  clear hnb hrd hk0 hm hmc hb2 hclW hcnW
  gi_wp2
  gi_loopw [10] (fun j wr => ∃ (k : Nat) (pre : List Nb) (Z : BlkS), j = .int .i64 (k : Int) ∧ k ≤ m ∧ Hid (pre.length = k) ∧ J pre Z wr ∧ RecK wr W.heap.size k (.slice a m c) N R Z) (fun j _ => m - (intOf j).toNat)
  case atStart => exact ⟨0, [], _, rfl, Nat.zero_le _, rfl, HJ2.out, HK0.out⟩
  case round =>
    obtain ⟨k, pre, Z, rfl, hkm, HPL, hJs, hrk⟩ := hrel
    have HRK : Hid (RecK wr W.heap.size k (.slice a m c) N R Z) := hrk
    have HJS : Hid (J pre Z wr) := hJs
    clear hrk hJs
    by_cases hlt : k < m
    · have hltI : (k : Int) < (m : Int) := by omega
      have hkw : IntKind.i64.wrap ((k : Int) + 1) = ((k + 1 : Nat) : Int) := by have := HMB.out; rw [IntKind.wrap_i64]; omega
      have hk0 : (0 : Int) ≤ (k : Int) := by omega
      have hkN : k < N.length := by rw [← HM.out]; exact hlt
      obtain ⟨y, hy⟩ : ∃ y, y = N[k] := ⟨_, rfl⟩
      have HYN : Hid (N[k]? = some y) := by unfold Hid; rw [hy]; exact List.getElem?_eq_getElem hkN
      obtain ⟨a2, c2, hv2, -, -, -, hrd⟩ := OwnG.val HRK.out.row
      rw [← HM.out] at hv2
      cases hv2
      obtain ⟨b, o, hab, hrg, -⟩ := hrd k hkN
      rw [← hy] at hrg
      subst hab
      obtain ⟨yn, ya, ym, yc⟩ := y
      have e0 : wr.cell? ⟨b, o + k * 2, none⟩ = some (.int .u64 (yn : Int)) := by have h9 := hrg 0 (.int .u64 (yn : Int)) rfl; rw [Nat.add_zero] at h9; exact h9
      have e1 : wr.cell? ⟨b, o + k * 2 + 1, none⟩ = some (.slice ya ym yc) := hrg 1 (.slice ya ym yc) rfl
      have HO : Hid (o + k * 2 = k * 2 ∨ True) := .inr trivial
      clear hrd hrg hy
      have hb3 : Below wr.heap.size wr (wr.alloc (.cells #[.int .u64 (yn : Int), .slice ya ym yc] 98)) := alS (Below.refl _ _) _
      have hb3' := hb3
      obtain ⟨w3, hw3⟩ : ∃ w3, w3 = wr.alloc (.cells #[.int .u64 (yn : Int), .slice ya ym yc] 98) := ⟨_, rfl⟩
      rw [← hw3] at hb3
      have hg3 : wr.grownBy w3 none := ⟨hb3.os, hb3.tape, hb3.output, hb3.size, fun k hk _ => hb3.block k hk⟩
      have hJ3 : J pre (fun b => Z b ∧ ¬ (Nb.v ⟨yn, ya, ym, yc⟩).ownBlock = some b) w3 := HJ.out.less _ _ _ _ (HJ.out.grow pre Z wr w3 none HJS.out hg3 (fun r e => by cases e)) (fun b h9 => .inl h9.1)
      have hkR : k < R.length := by rw [← HRL.out]; exact hlt
      have hown := (HRK.out.at_ k _ R[k] (Nat.le_refl _) HYN.out (List.getElem?_eq_getElem hkR))
      have hat : AtN R w.heap.size pre ⟨yn, ya, ym, yc⟩ (fun b => Z b ∧ ¬ (Nb.v ⟨yn, ya, ym, yc⟩).ownBlock = some b) w3 := ⟨⟨R[k], by rw [HPL.out]; exact List.getElem?_eq_getElem hkR, hown.1, Own.base (Own.below hown.2 hb3) HWB.out.size⟩, fun b e h9 => h9.2 e⟩
      obtain ⟨fn, tmps, assign, body, hyd, hRn⟩ := HY.out pre _ ⟨yn, ya, ym, yc⟩ w3 hJ3 hat
      have hyd' : (Instr.yield l #[.int .u64 (yn : Int), .slice ya ym yc]).run Tryd.prog w3 = .ok (.round l fn tmps assign body) w3 := hyd
      have HR3 : Hid (RecK w3 W.heap.size (k + 1) (.slice (some ⟨b, o, none⟩) m c) N R (fun b => Z b ∧ ¬ (Nb.v ⟨yn, ya, ym, yc⟩).ownBlock = some b)) := (HRK.out.below hb3).next HYN.out
      rw [hw3] at hyd'
      clear hyd hJ3 hat hown hb3
      gi_wp2
      refine ⟨fun _ => by omega, ?_⟩
      rw [← hw3]
      refine hRn.mono ?_
      rintro e W3 ⟨hkf, hkz, hpost⟩
      have hr4 := HR3.out.kept hkz
      rcases hpost with ⟨rfl, hJ4⟩ | ⟨rfl, hJ4⟩
      · gi_wp2
        go_roundw
        case rel => exact ⟨k + 1, pre ++ [⟨yn, ya, ym, yc⟩], _, by go_num, by omega, by unfold Hid; rw [List.length_append, HPL.out]; rfl, hJ4, hr4⟩
        case measure => simp [intOf]; omega
      · gi_wp2
        refine bodyPost_ret (results_none rfl _ _ _) rfl ?_
        exact ⟨⟨_, rfl⟩, .inr ⟨pre ++ [⟨yn, ya, ym, yc⟩], _, by rw [List.length_append, HPL.out]; show k + 1 ≤ _; omega, hJ4⟩⟩
    · obtain rfl : k = m := by omega
      have hltI : ¬ (k : Int) < (k : Int) := by omega
      gi_wp2
      go_end0
      first | exact ⟨⟨_, rfl⟩, .inl ⟨pre, Z, by rw [HPL.out, HRL.out], HJS.out⟩⟩ | exact ⟨⟨_, rfl⟩, .inl ⟨pre, by rw [HPL.out, HRL.out], Z, HJS.out⟩⟩
end
end Go.Proofs.YtibepnilhmbpeaaDoor
