import Derived.RangeFuncNested
import Derived.RangeFuncBound
import Derived.RangeFuncCalls
import Derived.RangeFuncLeaves
import Derived.Shelf.Abstract
import Derived.Shelf.RegionOpen
import Derived.OwnWalkIn
import Derived.TacticsInMore
import Derived.LoopNIn
import Derived.LoopIn
import Derived.Test.YtpakkpahcpgnnaaGreatDoorJM
import Derived.Sort.MapsRangeIn
set_option linter.unusedVariables false
set_option linter.unusedSimpArgs false
namespace Go.Proofs.YtpakkpahcpgnnaaGreatDoor
open Go.RowKit Go.Shelf
variable {F : Fence} {n : Nat} {P : Program}
theorem two_newR (w : World) (o1 o2 : Obj) : ((w.alloc o1).alloc o2).heap[w.heap.size]? = some o1 ∧ ((w.alloc o1).alloc o2).heap[w.heap.size + 1]? = some o2 :=
 ⟨((alw (bR _ _) _).block w.heap.size (by simp)).trans (heap_alloc_new w o1), by have := heap_alloc_new (w.alloc o1) o2; simpa using this⟩
theorem keeps_up {B C : Nat} {V V' : World} (h : KeepsFrom B V V') (hBC : B ≤ C) : KeepsFrom C V V' := ⟨h.size, fun k o hk h1 h2 => h.same k o (Nat.le_trans hBC hk) h1 h2⟩
theorem keeps_put {B l : Nat} (V : World) (o : Obj) (hl : l < B) : KeepsFrom B V (V.putObj l o) := KeepsFrom.of_grownBy (grownBy_putObj' V l o) (fun j e => by cases e; exact hl)
abbrev recAt (fn : FuncId) (a : Act) (ps : Array Tmp) (assign body : Code) (D : Nat) (st : LoopState) (pe : Option Code) : Loop := { state := st, pending := pe, fn, tmps := a.tmps, params := ps, assign, body, defers := D }
def Two (fn : FuncId) (a : Act) (ps : Array Tmp) (assign body : Code) (D : Nat) (st : LoopState) (pe : Option Code) (V : World) : Prop :=
 V.heap[D + 1]? = some (.loop (recAt fn a ps assign body D st pe)) ∧ V.heap[D]? = some (.deferred (some []))
section
variable {fn : FuncId} {a : Act} {ps : Array Tmp} {assign body : Code} {D : Nat} {st : LoopState} {pe : Option Code} {V V' : World}
theorem Two.lt (h : Two fn a ps assign body D st pe V) : D + 1 < V.heap.size := (sI h.1).1
theorem Two.keep (h : Two fn a ps assign body D st pe V) (k : KeepsFrom D V V') : Two fn a ps assign body D st pe V' := ⟨k.same _ _ (Nat.le_succ _) h.1 rfl, k.same _ _ (Nat.le_refl _) h.2 rfl⟩
theorem Two.turn (h : Two fn a ps assign body D st pe V) (st' : LoopState) (pe' : Option Code) : Two fn a ps assign body D st' pe' (V.putObj (D + 1) (.loop (recAt fn a ps assign body D st' pe'))) :=
 ⟨World.putObj_heap_same h.lt, (World.putObj_heap_other (by omega)).trans h.2⟩
theorem Two.far {B : Nat} (h : Two fn a ps assign body D st pe V) (hB : D + 1 < B) {row : Option Nat} (hg : V.grownBy V' row) (hr : ∀ r, row = some r → B ≤ r) : Two fn a ps assign body D st pe V' :=
 ⟨(hg.block _ h.lt (fun e => by have := hr _ e.symm; omega)).trans h.1, (hg.block _ (Nat.lt_of_succ_lt h.lt) (fun e => by have := hr _ e.symm; omega)).trans h.2⟩
end
abbrev BlkS := Nat → Prop
def KeepZ (Z : BlkS) (V V' : World) : Prop := ∀ k, Z k → V'.heap[k]? = V.heap[k]?
structure Gro {β : Type} (B : Nat) (J : β → BlkS → World → Prop) : Prop where
 grow : ∀ s Z V V' row, J s Z V → V.grownBy V' row → (∀ r, row = some r → B ≤ r ∧ ∃ o : Obj, V.heap[r]? = some o ∧ o.isCells = false) → J s (fun k => Z k ∨ (V.heap.size ≤ k ∧ k < V'.heap.size)) V'
 less : ∀ s Z Z' V, J s Z V → (∀ k, Z' k → Z k) → J s Z' V
theorem Gro.turn {β : Type} {B : Nat} {J : β → BlkS → World → Prop} (h : Gro B J) {s : β} {Z : BlkS} {V : World} {l : Nat} {o : Obj} (o' : Obj) (hs : J s Z V) (hB : B ≤ l) (hl : V.heap[l]? = some o) (ho : o.isCells = false) : J s Z (V.putObj l o') :=
 h.less _ _ _ _ (h.grow s Z V _ (some l) hs (grownBy_putObj' V l o') (fun r e => by cases e; exact ⟨hB, o, hl, ho⟩)) (fun k hk => .inl hk)
theorem Gro.new {β : Type} {B : Nat} {J : β → BlkS → World → Prop} (h : Gro B J) {s : β} {Z : BlkS} {V : World} (o : Obj) (hs : J s Z V) : J s Z (V.alloc o) :=
 h.less _ _ _ _ (h.grow s Z V _ none hs (World.grownBy_alloc V o none) (fun r e => by cases e)) (fun k hk => .inl hk)
def NonC (B : Nat) (W : World) : Prop := ∀ k, B ≤ k → k < W.heap.size → ∃ o : Obj, W.heap[k]? = some o ∧ o.isCells = false
def SeqG {α : Type} (F : Fence) (n : Nat) (P : Program) (g : Nat) (lb : Array Value) (encs : α → Array Value) (Z0 : BlkS) (S Sp : List α → Prop) (N : Nat) (w : World) : Prop :=
 ∀ (l : Nat) (J Jx : List α → BlkS → World → Prop) (W : World), Below w.heap.size w W → NonC w.heap.size W → Gro W.heap.size J → Gro W.heap.size Jx →
  (∀ pre Z x V, J pre Z V → pre.length < N → YieldAt F (n - 1) P l (encs x) V fun e V' => KeepsFrom W.heap.size V V' ∧ KeepZ Z V V' ∧ ((e = .returned (.bool true) ∧ J (pre ++ [x]) Z V') ∨ (e = .returned (.bool false) ∧ Jx (pre ++ [x]) Z V'))) →
  J [] Z0 W → CallsIn F n P g (#[.func (.yield l) #[] #[]] ++ lb) W fun e V' => (∃ v, e = .returned v) ∧ ((∃ xs Z, S xs ∧ J xs Z V') ∨ (∃ pre Z, Sp pre ∧ Jx pre Z V'))
def postZ {α : Type} (B : Nat) (Z : BlkS) (I : List α → BlkS → World → Prop) (Ix : Code → List α → BlkS → World → Prop) (xs : List α) (W : World) : Exit → Act → World → Prop
 | .normal, _, W' => KeepsFrom B W W' ∧ KeepZ Z W W' ∧ I xs Z W'
 | .ret, _, W' => KeepsFrom B W W' ∧ KeepZ Z W W' ∧ Ix .ret xs Z W'
 | .exit id, _, W' => KeepsFrom B W W' ∧ KeepZ Z W W' ∧ Ix (.exit id) xs Z W'
 | .goto t, _, W' => KeepsFrom B W W' ∧ KeepZ Z W W' ∧ Ix (.goto t) xs Z W'
 | .panic _, _, _ => False
 | .outgrown, _, _ => False
theorem KeepZ.trans {Z : BlkS} {A B C : World} (h : KeepZ Z A B) (k : KeepZ Z B C) : KeepZ Z A C := fun i hi => (k i hi).trans (h i hi)
theorem keepZ_put {Z : BlkS} {l : Nat} (V : World) (o : Obj) (h : ¬ Z l) : KeepZ Z V (V.putObj l o) := fun k hk => World.putObj_heap_other (fun e => h (e ▸ hk))
set_option maxHeartbeats 2000000 in
theorem wpIn_rangeFunc_G {α : Type} {g : Operand} {ps : Array Tmp} {assign body : Code} {Q : Exit → Act → World → Prop} {a : Act} {w : World}
 (hro : F.round = none) (h1 : 1 ≤ n) {gf : Nat} {lb : Array Value} (hg : a.eval g = .func (.func gf) #[] lb) (hFg : F.fn gf) (eg : ∀ args w, (callFunc gf args).run P w = .ok (.enter gf args) w)
 {encs : α → Array Value} {Z0 : BlkS} {S Sp : List α → Prop} {N : Nat} (hseq : SeqG F (n - 1) P gf lb encs Z0 S Sp N w) (hZ0 : ∀ k, Z0 k → k < w.heap.size) (hps : ∀ x, (encs x).size = ps.size)
 (I : List α → BlkS → World → Prop) (Ix : Code → List α → BlkS → World → Prop) (hI : Gro w.heap.size I) (hIx : ∀ c, Gro w.heap.size (Ix c)) (h0 : I [] Z0 w) (Ax : α → Act → World → Prop) (hAx : ∀ x a', OwnFrom w.heap.size (fun (_ : Unit) W => Ax x a' W))
 (hassign : ∀ (l : Nat) (pre : List α) (Z : BlkS) (x : α) (W : World) (K : Act → World → Prop), I pre Z W → (∀ a' W', KeepsFrom w.heap.size W W' → KeepZ Z W W' → I pre Z W' → Ax x a' W' → K a' W') →
   assign.wpIn (F.inRound l) (n - 1 - 1) P (Exit.then K (fun _ _ _ => False)) { tmps := (ps.zip (encs x)).foldl (fun t (p, v) => t.setIfInBounds p v) a.tmps, defers := [] } W)
 (hbody : ∀ (l : Nat) (pre : List α) (Z : BlkS) (x : α) (a' : Act) (W : World), w.heap.size ≤ l → (∃ r, W.heap[l]? = some (.loop r)) → I pre Z W → Ax x a' W → pre.length < N → body.wpIn (F.inRound l) (n - 1 - 1) P (postZ w.heap.size Z I Ix (pre ++ [x]) W) a' W)
 (hdone : ∀ (D : Nat) (xs : List α) (Z : BlkS) (W : World), w.heap.size ≤ D → S xs → I xs Z W → W.heap[D]? = some (.deferred (some [])) → Q .normal { a with defers := { target := .collected D, args := #[] } :: a.defers } W)
 (hstop : ∀ (D : Nat) (c : Code) (pre : List α) (Z : BlkS) (W : World), w.heap.size ≤ D → Sp pre → Ix c pre Z W → W.heap[D]? = some (.deferred (some [])) → c.wpIn F n P Q { a with defers := { target := .collected D, args := #[] } :: a.defers } W) :
 (Code.rangeFunc g ps assign body).wpIn F n P Q a w := by
 refine wpIn_rangeFunc fun fn hfn => ?_
 rw [hro]; obtain ⟨W1, hW1⟩ : ∃ W1, W1 = (w.alloc (.deferred (some []))).alloc (.loop (recAt fn a ps assign body w.heap.size .ready none)) := ⟨_, rfl⟩; have hsz : W1.heap.size = w.heap.size + 2 := by rw [hW1]; simp
 have hT : Two fn a ps assign body w.heap.size .ready none W1 := by rw [hW1]; exact ⟨(two_newR w _ _).2, (two_newR w _ _).1⟩
 have hB1 : Below w.heap.size w W1 := by rw [hW1]; exact alw (alw (bR _ _) _) _
 have hI1 : I [] Z0 W1 := by rw [hW1]; exact hI.new _ (hI.new _ h0)
 refine ⟨w.heap.size + 1, [{ target := .collected w.heap.size, args := #[] }], W1, { target := .fn (.func gf) lb, args := #[.func (.yield (w.heap.size + 1)) #[] #[]] }, W1, gf, #[.func (.yield (w.heap.size + 1)) #[] #[]] ++ lb, W1, ?_, ?_, ?_, ?_, fun _ => h1, ?_⟩
 · rw [hW1]; exact run_enterLoop_outer _ _ _ _ _
 · simp only [resolve, hg]; simp [go_sem]
 · intro f hf; simp [Target.leads] at hf; subst hf; exact hFg
 · simp [invoke, go_sem, eg]
 have gro : ∀ {J : List α → BlkS → World → Prop} {st : LoopState} {pe : Option Code}, Gro w.heap.size J → Gro W1.heap.size (fun s Z V => J s Z V ∧ Two fn a ps assign body w.heap.size st pe V ∧ ¬ Z (w.heap.size + 1)) := fun hJ => ⟨fun s Z V V' row hs hg' hr => ⟨hJ.grow s Z V V' row hs.1 hg' (fun r e => ⟨by have := (hr r e).1; omega, (hr r e).2⟩), hs.2.1.far (B := W1.heap.size) (by omega) hg' (fun r e => (hr r e).1), fun hz => by
     rcases hz with hz | ⟨hz, -⟩
     · exact hs.2.2 hz
     · have := hs.2.1.lt; omega⟩, fun s Z Z' V hs hz => ⟨hJ.less s Z Z' V hs.1 hz, hs.2.1, fun h9 => hs.2.2 (hz _ h9)⟩⟩
 refine (hseq (w.heap.size + 1) (fun pre Z V => I pre Z V ∧ Two fn a ps assign body w.heap.size .ready none V ∧ ¬ Z (w.heap.size + 1)) (fun pre Z V => ∃ c, Ix c pre Z V ∧ Two fn a ps assign body w.heap.size .done (some c) V ∧ ¬ Z (w.heap.size + 1)) W1 hB1 (fun k h2 h3 => by
     have : k = w.heap.size ∨ k = w.heap.size + 1 := by omega
     rcases this with rfl | rfl
     · exact ⟨_, hT.2, rfl⟩
     · exact ⟨_, hT.1, rfl⟩)
   (gro hI) ⟨fun s Z V V' row ⟨c, hc⟩ hg' hr => ⟨c, (gro (hIx c)).grow s Z V V' row hc hg' hr⟩, fun s Z Z' V ⟨c, hc⟩ hz => ⟨c, (gro (hIx c)).less s Z Z' V hc hz⟩⟩ ?round ⟨hI1, hT, fun h9 => by have := hZ0 _ h9; omega⟩).mono ?_
 case round =>
  rintro pre Z x V ⟨hi, ht, hzn⟩ hlen; refine ⟨fn, _, assign, body, run_yield (P := P) (args := encs x) ht.1 (hps x), roundIn_of_wpIn hfn (hassign _ pre Z x V _ hi ?_)⟩; intro a' Va hka hza hia hxa; have hta := ht.keep hka; refine ⟨_, run_beginRound hta.1 rfl, ?_⟩; have htb := hta.turn .busy none; refine wpIn_mono (hbody _ pre Z x a' _ (Nat.le_succ _) ⟨_, htb.1⟩ (hI.turn _ hia (Nat.le_succ _) hta.1 rfl) ((hAx x a').putObj (s := ()) _ hxa (Nat.le_succ _) hta.1 rfl) hlen) ?_
  have kr : ∀ V3, KeepsFrom w.heap.size (Va.putObj (w.heap.size + 1) (.loop (recAt fn a ps assign body w.heap.size .busy none))) V3 → KeepZ Z (Va.putObj (w.heap.size + 1) (.loop (recAt fn a ps assign body w.heap.size .busy none))) V3 → ∀ o, KeepsFrom W1.heap.size V (V3.putObj (w.heap.size + 1) o) ∧ KeepZ Z V (V3.putObj (w.heap.size + 1) o) := fun V3 k3 z3 o => by
   have hle : w.heap.size ≤ W1.heap.size := by omega
   exact ⟨(((keeps_up hka hle).trans (keeps_put Va _ (by omega))).trans (keeps_up k3 hle)).trans (keeps_put V3 o (by omega)), ((hza.trans (keepZ_put Va _ hzn)).trans z3).trans (keepZ_put V3 o hzn)⟩
  have leave : ∀ c V3, KeepsFrom w.heap.size (Va.putObj (w.heap.size + 1) (.loop (recAt fn a ps assign body w.heap.size .busy none))) V3 → KeepZ Z (Va.putObj (w.heap.size + 1) (.loop (recAt fn a ps assign body w.heap.size .busy none))) V3 → Ix c (pre ++ [x]) Z V3 → ∃ v V4, (Instr.endRound (w.heap.size + 1) (some c)).run P V3 = .ok v V4 ∧ (KeepsFrom W1.heap.size V V4 ∧ KeepZ Z V V4 ∧ ((Ending.returned v = .returned (.bool true) ∧ (I (pre ++ [x]) Z V4 ∧ Two fn a ps assign body w.heap.size .ready none V4 ∧ ¬ Z (w.heap.size + 1))) ∨ (Ending.returned v = .returned (.bool false) ∧ ∃ c, Ix c (pre ++ [x]) Z V4 ∧ Two fn a ps assign body w.heap.size .done (some c) V4 ∧ ¬ Z (w.heap.size + 1)))) := fun c V3 k3 z3 hx3 => by
   have ht3 := htb.keep k3; exact ⟨_, _, run_endRound (P := P) (some c) ht3.1, (kr V3 k3 z3 _).1, (kr V3 k3 z3 _).2, .inr ⟨rfl, c, (hIx c).turn _ hx3 (Nat.le_succ _) ht3.1 rfl, ht3.turn .done (some c), hzn⟩⟩
  intro e a3 V3 hp; cases e with
  | normal =>
   obtain ⟨k3, z3, i3⟩ := hp; have ht3 := htb.keep k3; exact ⟨_, _, run_endRound (P := P) none ht3.1, (kr V3 k3 z3 _).1, (kr V3 k3 z3 _).2, .inl ⟨rfl, hI.turn _ i3 (Nat.le_succ _) ht3.1 rfl, ht3.turn .ready none, hzn⟩⟩
  | ret => exact leave _ V3 hp.1 hp.2.1 hp.2.2
  | exit id => exact leave _ V3 hp.1 hp.2.1 hp.2.2
  | goto t => exact leave _ V3 hp.1 hp.2.1 hp.2.2
  | panic ch => exact hp.elim
  | outgrown => exact hp.elim
 rintro e V2 ⟨⟨v, rfl⟩, (⟨xs, Z, hS, hi, ht, -⟩ | ⟨pre, Z, hSp, c, hi, ht, -⟩)⟩
 · exact ⟨none, _, run_endLoop (P := P) ht.1 (by simp), hdone _ xs Z _ (Nat.le_refl _) hS (hI.turn _ hi (Nat.le_succ _) ht.1 rfl) ((World.putObj_heap_other (by omega)).trans ht.2)⟩
 · exact ⟨some c, _, run_endLoop (P := P) ht.1 (by simp), hstop _ c pre Z _ (Nat.le_refl _) hSp ((hIx c).turn _ hi (Nat.le_succ _) ht.1 rfl) ((World.putObj_heap_other (by omega)).trans ht.2)⟩
end Go.Proofs.YtpakkpahcpgnnaaGreatDoor
namespace Go.Proofs.YtpakkpahcpgnnaaGreatDoor
open Go.RowKit Go.Maps Go.Shelf
section
variable {κ ν : Type} {K : Kk κ ν}
variable {w w' : World} {m : Nat} {L : List (κ × ν)}
variable {F : Fence} {nf : Nat}
section
variable {tM tE : TypeId}
theorem gwpi_range (hu : Tryz.prog.underlying tM = some (.map K.t tE)) {ops : Array Oper} {rest : List Oper} {o : Oper} {a : Act} {Q : Exit → Act → World → Prop} (hg : o.guard = none) (y : Operand) (ho : o.op = Op.range tM y) (h : MapG K w m L) (hy : a.eval y = .map (some m))
 (hK : ∀ w', RngG K w' m w.heap.size L [] L.length → w.grownBy w' none → w'.heap.size = w.heap.size + 1 → wpListIn F nf Tryz.prog ops Q rest (a.put o.dst (.pointer (some ⟨w.heap.size, 0, none⟩))) w') : wpListIn F nf Tryz.prog ops Q (o :: rest) a w := by
 obtain ⟨D, h1, h2, h3, h4⟩ := h.own; refine wpListIn_range_own w hg y tM ho K.t tE K.keyed hu selfG m L.length D hy h1 ?_; intro w' h5 h6 h7; rw [h2] at h5; refine hK w' ⟨⟨D, _, h5, h3, h4, fun s => ?_⟩, List.nodup_nil, h.nd, h.rg⟩ h6 h7; constructor
 · intro h8; cases h8
 · rintro ⟨h8, h9⟩; rw [(h3 s (h.rg s h8)).2 h8] at h9; cases h9
end
theorem gwpi_next [DecidableEq κ] {ops : Array Oper} {rest : List Oper} {o : Oper} {a : Act} {Q : Exit → Act → World → Prop} {r cnt : Nat} {ds : List κ} (hg : o.guard = none) (it : Operand) (ho : o.op = Op.next it false) (h : RngG K w m r L ds cnt) (hit : a.eval it = .pointer (some ⟨r, 0, none⟩))
 (hDone : (∀ s, s ∈ ds ↔ s ∈ gk L) → wpListIn F nf Tryz.prog ops Q rest (a.put o.dst (.tuple #[.bool false])) w)
 (hMore : ∀ (x : κ × ν) (w' : World) (cnt' : Nat), x ∈ L → x.1 ∉ ds → RngG K w' m r L (ds ++ [x.1]) cnt' → cnt' < cnt → w.grownBy w' (some r) → w'.heap.size = w.heap.size → (Instr.entry (.pointer (some ⟨r, 0, none⟩))).run Tryz.prog w' = .ok (.tuple #[K.kv x.1, K.vv x.2]) w' → wpListIn F nf Tryz.prog ops Q rest (a.put o.dst (.tuple #[.bool true, K.kv x.1, K.vv x.2])) w') :
 wpListIn F nf Tryz.prog ops Q (o :: rest) a w := by
 obtain ⟨D, left, h1, h3, h4, h5⟩ := h.ex; refine wpListIn_next_ranges w hg it ho K.t K.keyed selfG (α := κ) (β := Value) K.kv (fun v => v) (fun key kl hk => by obtain ⟨s, e, -⟩ := K.inv hk; exact ⟨s, e⟩) (fun v y _ => ⟨v, rfl⟩) m r L.length D left cnt hit h1 ?_ ?_
 · intro _ hl; exact hDone (fun s => by rw [h5 s]; simp [hl])
 · intro x c kl y w' cnt' hk hl hc hat hrg hlt hgr hsz hen
   have hx : K.ok x := by
    obtain ⟨s, e, h9⟩ := K.inv hk; rw [K.inj e]; exact h9
   obtain rfl : kl = K.kl x := by rw [K.of hx] at hk; exact (Option.some.inj hk).symm
   have hin : x ∈ gk L := (h3 x hx).1 (has_true_of_atKey hat); obtain ⟨e, he, rfl⟩ := List.mem_map.1 hin
   have hce : c = K.vv e.2 := by
    have h9 := hat (.held c); rw [h4 e he] at h9; simp only [selfG, Option.some.injEq] at hc; rw [← hc] at h9; exact (DataW.held.inj h9).symm
   subst hce
   have hnd : e.1 ∉ ds := fun h9 => by
    have h8 := ((h5 _).1 h9).2; rw [hl] at h8; cases h8
   refine hMore e w' cnt' he hnd ⟨⟨D, _, hrg, h3, h4, fun s => ?_⟩, ?_, h.nl, h.rg⟩ hlt hgr hsz hen
   · rw [List.mem_append, List.mem_singleton, h5 s]; constructor
     · rintro (⟨h8, h9⟩ | rfl)
       · exact ⟨h8, by rw [h9]; rfl⟩
       · exact ⟨hin, by rw [WideAt.sameKey_self (K.key hx)]; simp⟩
     · rintro ⟨h8, h9⟩
       by_cases e9 : s = e.1
       · exact .inr e9
       · refine .inl ⟨h8, ?_⟩; rw [sameKey_ne (K.ne (h.rg s h8) hx e9)] at h9
         simpa using h9
   · rw [List.nodup_append]; refine ⟨h.nd, by simp, fun a1 ha b1 hb => ?_⟩; rw [List.mem_singleton.1 hb]; intro e9; exact hnd (e9 ▸ ha)
end
end Go.Proofs.YtpakkpahcpgnnaaGreatDoor
namespace Go.Proofs.YtpakkpahcpgnnaaGreatDoor
open Go.RowKit Go.Maps Go.Shelf
section
set_option maxHeartbeats 2000000
set_option maxRecDepth 100000
theorem fkeysG {w : World} {b Bm : Nat} {L : List (Nat × Nat)} (hmp : MapG KSp w b L) (hBl : Bm < w.heap.size) (hBm : w.cell? ⟨Bm, 0, none⟩ = some (.map (some b))) (nf : Nat) (hn : 1 ≤ nf) (Z0 : BlkS) (hZ : Z0 b) :
 SeqG Fence.wide nf Tryz.prog 113 #[.pointer (some ⟨Bm, 0, none⟩)] (fun k : Nat => #[.int .u64 (k : Int)]) Z0 (fun ss => ss.Perm (gk L)) (fun _ => True) L.length w := by
 intro l J Jx W hW hNC hJ hJx hY h0; have hmW : MapG KSp W b L := hmp.below hW; have hcW : W.cell? ⟨Bm, 0, none⟩ = some (.map (some b)) := (hW.cell (p := ⟨Bm, 0, none⟩) hBl).trans hBm; refine callsIn_of_wp Tryz.func113 rfl trivial ?_ rfl; simp only [Tryz.ntmps113, List.size_toArray, List.length_cons, List.length_nil, Nat.reduceAdd, Nat.reduceSub, Array.replicate_succ, Array.replicate_zero, List.push_toArray, List.append_toArray, List.nil_append, List.cons_append]
 gi_wp2_with (first
   | (gi_at_range; refine gwpi_range uMp rfl _ rfl hmW rfl ?_; intro w0 hrg0 hg0 hs0)
   | gi_in)
 gi_loopw [3] (fun _ wr => ∃ (ds : List Nat) (cnt : Nat) (Z : BlkS), RngG KSp wr b W.heap.size L ds cnt ∧ J ds Z wr ∧ Z b ∧ Z W.heap.size)
  (fun _ wr => wr.rangeLeft b W.heap.size)
 case atStart => exact ⟨[], _, _, hrg0, hJ.grow [] Z0 W w0 none h0 hg0 (fun r e => by cases e), .inl hZ, .inr ⟨Nat.le_refl _, by omega⟩⟩
 case round =>
  obtain ⟨ds, cnt, Z, hrg, hJs, hZb, hZr⟩ := hrel
  gi_wp2_with (first
    | (gi_at_next; refine gwpi_next rfl _ rfl hrg rfl ?_ ?_)
    | gi_in)
  · intro hall
    gi_wp2
    go_end0; exact ⟨⟨_, rfl⟩, .inl ⟨ds, Z, (List.perm_ext_iff_of_nodup hrg.nd hrg.nl).2 hall, hJs⟩⟩
  · intro n g w2 cnt2 hx hxd hrg2 hlt hg2 hs2 hen
    have hwalk : ∃ o : Obj, wr.heap[W.heap.size]? = some o ∧ o.isCells = false := by
     obtain ⟨D9, left9, h9, -⟩ := hrg.ex; obtain ⟨o, h8, h7⟩ := h9.iter_walk; exact ⟨o, h8, Obj.not_cells_of_walk h7⟩
    have hJ2 : J ds Z w2 := hJ.less _ _ _ _ (hJ.grow ds Z wr w2 (some W.heap.size) hJs hg2 (fun r e => by cases e; exact ⟨Nat.le_refl _, hwalk⟩)) (fun k hk => .inl hk)
    have hdl : ds.length < L.length := by
     have h9 := hrg2.sub; rw [List.length_append] at h9; exact h9
    obtain ⟨fn, tmps, assign, body, hy, hR⟩ := hY ds Z n w2 hJ2 hdl; have hen' : (Instr.entry (.pointer (some ⟨W.heap.size, 0, none⟩))).run Tryz.prog w2 = .ok (.tuple #[.int .u64 (n : Int), .pointer (some ⟨g, 0, none⟩)]) w2 := hen; have hy' : (Instr.yield l #[.int .u64 (n : Int)]).run Tryz.prog w2 = .ok (.round l fn tmps assign body) w2 := hy; clear hs2 hen hy
    gi_wp2
    refine hR.mono ?_; rintro e W3 ⟨hkf, hkz, hpost⟩; have hrg3 : RngG KSp W3 b W.heap.size L (ds ++ [n]) cnt2 := hrg2.kept (hkz b hZb) (hkz _ hZr); rcases hpost with ⟨rfl, hJ3⟩ | ⟨rfl, hJ3⟩
    · gi_wp2
      go_roundw
      case rel => exact ⟨ds ++ [n], cnt2, Z, hrg3, hJ3, hZb, hZr⟩
      case measure => rw [hrg3.left_eq, hrg.left_eq]; exact hlt
    · gi_wp2
      refine bodyPost_ret (results_none rfl _ _ _) rfl ?_; exact ⟨⟨_, rfl⟩, .inr ⟨ds ++ [n], Z, trivial, hJ3⟩⟩
end
end Go.Proofs.YtpakkpahcpgnnaaGreatDoor
namespace Go.Proofs.YtpakkpahcpgnnaaGreatDoor
open Go.RowKit Go.Maps Go.Shelf
attribute [local go_sem] Oper.semAt_some
section
set_option maxHeartbeats 2000000
set_option maxRecDepth 100000
variable {F : Fence} {nf : Nat}
theorem wpi_app6 {w : World} {ops : Array Oper} {rest : List Oper} {o : Oper} {a : Act} {Q : Exit → Act → World → Prop} (hgd : o.guard = none) (s x : Operand)
 (ho : o.op = .call { callee := .builtin .append, args := #[s, x], argTypes := #[KNu6.ts, KNu6.ts] }) (B : Nat) (v : Value) (xs : List Nat) (y : Nat) (ad : Addr) (cap : Nat)
 (hs : a.eval s = v) (hown : OwnG KNu6 w B v xs) (hx : a.eval x = .slice (some ad) 1 cap) (hr : RdG KNu6 w (some ad) [y])
 (hl : xs.length ≤ 1000) (hbase : B ≤ w.heap.size)
 (h : ∀ g c w', OwnG KNu6 w' B (.slice (some ⟨g, 0, none⟩) (xs.length + 1) c) (xs ++ [y]) → w.grownBy w' v.ownBlock → (v.ownBlock = some g ∨ w.heap.size ≤ g) → wpListIn F nf Tryz.prog ops Q rest (a.put o.dst (.slice (some ⟨g, 0, none⟩) (xs.length + 1) c)) w') : wpListIn F nf Tryz.prog ops Q (o :: rest) a w := by
 obtain ⟨i0, hi, hz0, hz1, hz2⟩ := info_parts KNu6.hi; refine wpListIn_plain hgd fun K hK' => ?_
 obtain ⟨g, c, w', hrun, h1, h2, h3, h4⟩ := run_append_lies (P := Tryz.prog) w KNu6.ts o.type B KNu6.t i0 KNu6.z KNu6.k KNu6.by_ KNu6.ht hi hz0 hz1 hz2 KNu6.hz KNu6.hpos v xs.length (KNu6.flat xs) hown ad 1 cap (KNu6.flat [y]) (Kd.flat_len [y]) hr.news (Kd.flat_one' [y]) (by omega) (by simp only [maxLen]; omega) (by show (xs.length + 1) * 8 ≤ _; omega) hbase w.heap.size rfl; unfold Oper.wpIn; refine ⟨?_, ?_⟩
 · simp [Oper.about, ho, resolve, Target.leads, Sem.run_pure]
 · rw [Oper.semAt_plain F _ _ (by rw [ho]; intro c hc'; cases hc')]; simp [execOp, ho, resolve, invoke, builtin, hs, hx, hrun, Result.andThen]; refine hK' _ _ (h g c w' ?_ h2 (h3.imp id (fun e => by omega))); unfold OwnG; rw [List.length_append, Kd.flat_app]; exact h1
structure BxS (V : World) (H : Nat) (v : Value) (xs : List Nat) (Z : BlkS) : Prop where
 bx : V.heap[H]? = some (.cells #[v] 52 (0, 0))
 ow : OwnG KNu6 V (H + 1) v xs
 nz : ¬ Z H
 nv : ∀ b, v.ownBlock = some b → ¬ Z b
 zl : ∀ k, Z k → k < V.heap.size
theorem BxS.grow {V V' : World} {H : Nat} {v : Value} {xs : List Nat} {Z : BlkS} {row : Option Nat} (h : BxS V H v xs Z) (hg : V.grownBy V' row) (hr : ∀ r, row = some r → ∃ o : Obj, V.heap[r]? = some o ∧ o.isCells = false) : BxS V' H v xs (fun k => Z k ∨ (V.heap.size ≤ k ∧ k < V'.heap.size)) := by
 have hkp : ∀ (b : Nat) (C : Array Value) (t : TypeId), V.heap[b]? = some (.cells C t (0, 0)) → V'.heap[b]? = V.heap[b]? := fun b C t hb => hg.block b (sI hb).1 (fun e => by
   obtain ⟨o, h1, h2⟩ := hr b e.symm; rw [hb] at h1; cases h1
   cases h2)
 have hHl := (sI h.bx).1; refine ⟨(hkp _ _ _ h.bx).trans h.bx, h.ow.kept (fun b hb => ?_), ?_, ?_, ?_⟩
 · obtain ⟨cur, h9⟩ := h.ow.at_ hb; exact hkp _ _ _ h9
 · rintro (h9 | ⟨h9, -⟩)
   · exact h.nz h9
   · omega
 · rintro b hb (h9 | ⟨h9, -⟩)
   · exact h.nv b hb h9
   · have := (h.ow.lt' hb).2; omega
 · rintro k (h9 | ⟨-, h9⟩)
   · exact Nat.lt_of_lt_of_le (h.zl k h9) hg.size
   · exact h9
theorem BxS.less {V : World} {H : Nat} {v : Value} {xs : List Nat} {Z Z' : BlkS} (h : BxS V H v xs Z) (hz : ∀ k, Z' k → Z k) : BxS V H v xs Z' := ⟨h.bx, h.ow, fun h9 => h.nz (hz _ h9), fun b hb h9 => h.nv b hb (hz _ h9), fun k hk => h.zl k (hz k hk)⟩
theorem fappSeq {w : World} {b Bm : Nat} {L : List (Nat × Nat)} (hmp : MapG KSp w b L) (hBl : Bm < w.heap.size) (hBm : w.cell? ⟨Bm, 0, none⟩ = some (.map (some b))) (hl : L.length ≤ 1000) :
 Calls Tryz.prog 138 #[.slice none 0 0, .func (.func 113) #[] #[.pointer (some ⟨Bm, 0, none⟩)]] w fun e w' => ∃ v xs, e = .returned v ∧ OwnG KNu6 w' w.heap.size v xs ∧ xs.Perm (gk L) ∧ Below w.heap.size w w' := by
 refine (callsIn_wide (n := 8)).1 ?_; obtain ⟨W1, hW1⟩ : ∃ X : World, X = w.alloc (.cells #[.slice none 0 0] 52) := ⟨_, rfl⟩; have hb1 : Below w.heap.size w W1 := by rw [hW1]; exact alw (bR _ _) _
 have hz1 : W1.heap.size = w.heap.size + 1 := by rw [hW1]; simp
 have hbx : W1.heap[w.heap.size]? = some (.cells #[.slice none 0 0] 52 (0, 0)) := by rw [hW1]; exact heap_alloc_new w _
 have hml := hmp.lt; have hsq := fkeysG (hmp.below hb1) (by omega : Bm < W1.heap.size) ((hb1.cell (p := ⟨Bm, 0, none⟩) hBl).trans hBm) 7 (by decide) (fun k => k = b) rfl; have hB1 : BxS W1 w.heap.size (.slice none 0 0) [] (fun k => k = b) := ⟨hbx, World.ownsRow_nil _ _ _ _, fun e => by omega, (fun b9 hb9 => by cases hb9), fun k hk => by omega⟩; obtain ⟨H, hH⟩ : ∃ H, H = w.heap.size := ⟨_, rfl⟩; rw [← hH] at hB1; have HH : Hid (H = w.heap.size) := hH; have HZ1 : Hid (W1.heap.size = w.heap.size + 1) := hz1; have HB1 : Hid _ := hB1; have HBW : Hid _ := hb1; have HSQ : Hid _ := hsq; have HW1 : Hid (W1 = _) := hW1; have HML : Hid (b < W1.heap.size) := by unfold Hid; omega
 clear hsq hB1 hbx hb1 hz1 hW1 hBm hBl hmp hml; refine callsIn_of_wp_marks Tryz.func138 rfl trivial ?_ rfl; simp only [Tryz.ntmps138, List.size_toArray, List.length_cons, List.length_nil, Nat.reduceAdd, Nat.reduceSub, Array.replicate_succ, Array.replicate_zero, List.push_toArray, List.append_toArray, List.nil_append, List.cons_append]
 gi_wp2
 rw [← HW1.out, ← hH]; clear hH
 refine wpIn_rangeFunc_G rfl (by decide) (gf := 113) (lb := #[.pointer (some ⟨Bm, 0, none⟩)]) rfl trivial (enters_of Tryz.func113 (by kernel_rfl) rfl) HSQ.out (fun k hk => by rw [hk]; exact HML.out) (fun _ => rfl)
  (fun pre Z V => (∃ v, BxS V H v pre Z) ∧ Below H w V ∧ W1.heap.size ≤ V.heap.size)
  (fun c pre Z V => False)
  ⟨fun s Z V V' row hs hg hr => ⟨hs.1.elim fun v h9 => ⟨v, h9.grow hg (fun r e => (hr r e).2)⟩, hs.2.1.grown hg (by have := HZ1.out; have := HH.out; omega) (fun r e => by have := (hr r e).1; have := HZ1.out; have := HH.out; omega), Nat.le_trans hs.2.2 hg.size⟩, fun s Z Z' V hs hz => ⟨hs.1.elim fun v h9 => ⟨v, h9.less hz⟩, hs.2⟩⟩
  (fun c => ⟨fun s Z V V' row hs _ _ => hs, fun s Z Z' V hs _ => hs⟩)
  ⟨⟨_, HB1.out⟩, (by rw [HH.out]; exact HBW.out), Nat.le_refl _⟩
  (fun x a' V => a' = { tmps := #[.slice none 0 0, .func (.func 113) #[] #[.pointer (some ⟨Bm, 0, none⟩)], .pointer (some ⟨H, 0, none⟩), undef, .slice none 0 0, .int .u64 (x : Int), .func (.func 113) #[] #[.pointer (some ⟨Bm, 0, none⟩)], .int .u64 (x : Int), undef, undef, undef, undef, undef], defers := [] })
  (fun x a' s A B row hs hg hr => hs)
  ?assign ?body ?done ?stop
 case assign =>
  rintro l pre Z x V K hI hK
  gi_wp2
  refine hK _ _ ⟨Nat.le_refl _, fun k o _ h1 _ => h1⟩ (fun k hk => rfl) hI ?_
  rfl
 case body =>
  rintro l pre Z x a' V hl2 hlr ⟨⟨v, hB⟩, hbv, hzs⟩ rfl hlt; have hHV := (sI hB.bx).1; obtain ⟨av, cv, hv, -, -, -, -⟩ := OwnG.val hB.ow; obtain ⟨k, hk⟩ : ∃ k, k = pre.length := ⟨_, rfl⟩; rw [← hk] at hv hlt; subst hv; have hc0 : V.cell? ⟨H, 0, none⟩ = some (.slice av k cv) := by rw [cR hB.bx]; rfl
  have HB : Hid _ := hB; have HK : Hid (k = pre.length) := hk
  have HZV : Hid (∀ (w7 : World) (v7 : Value), (V.alloc (.cells #[.int .u64 (x : Int)] 23)).grownBy w7 (Value.slice av k cv).ownBlock → (∀ b, v7.ownBlock = some b → (Value.slice av k cv).ownBlock = some b ∨ V.heap.size ≤ b) → w7.heap[H]? = some (.cells #[.slice av k cv] 52 (0, 0)) ∧ (∀ j, Z j → w7.heap[j]? = V.heap[j]?) ∧ V.heap.size ≤ w7.heap.size ∧ (∀ b, v7.ownBlock = some b → ¬ Z b) ∧ Below H w w7 ∧ KeepsFrom W1.heap.size V w7) := fun w7 v7 hg ho => by
   have hal := alw (Below.refl V.heap.size V) (.cells #[.int .u64 (x : Int)] 23); have h1 : w7.heap[H]? = some (.cells #[.slice av k cv] 52 (0, 0)) := (hg.block H (Nat.lt_of_lt_of_le hHV hal.size) (fun e => by have := (hB.ow.lt' e.symm).1; omega)).trans ((hal.block H hHV).trans hB.bx); refine ⟨h1, fun j hj => ?_, Nat.le_trans hal.size hg.size, ?_, ?_, ?_⟩
   · exact (hg.block j (Nat.lt_of_lt_of_le (hB.zl j hj) hal.size) (fun e => hB.nv j e.symm hj)).trans (hal.block j (hB.zl j hj))
   · intro b hb9 hz9; rcases ho b hb9 with h9 | h9
     · exact hB.nv b h9 hz9
     · have := hB.zl b hz9; omega
   · exact (hbv.alloc (by omega) _).grown hg (by simp; omega) (fun j hj => by have := (hB.ow.lt' hj).1; omega)
   · refine ((KeepsOthers.alloc V _).trans (KeepsOthers.of_grownBy hg ?_)).from _; intro j o9 hj ho9; obtain ⟨cur, h9⟩ := hB.ow.at_ hj; rw [hal.block j (hB.ow.lt' hj).2, h9] at ho9; cases ho9; rfl
  clear hB hk
  gi_wp2_with (gi_at_builtin; refine wpi_app6 rfl _ _ rfl (H + 1) (.slice av k cv) pre x ⟨V.heap.size, 0, none⟩ 1 rfl (OwnG.below HB.out.ow (alw (bR _ _) _)) rfl (rdG_lit (K := KNu6) (heap_alloc_new _ _) rfl) (by have := HK.out; omega) (by simp; omega) ?_; intro g7 c7 w7 hown7 hg7 hat7; obtain ⟨m7, hm7⟩ : ∃ m7, m7 = pre.length + 1 := ⟨_, rfl⟩; rw [← hm7] at hown7 ⊢; obtain ⟨z1, z2, z3, z4, z5, z6⟩ := HZV.out _ (.slice (some ⟨g7, 0, none⟩) m7 c7) hg7 (fun b9 hb9 => by cases hb9; exact hat7.imp id (fun h9 => Nat.le_trans (alw (Below.refl V.heap.size V) (.cells #[.int .u64 (x : Int)] 23)).size h9)); have hc7 : w7.cell? ⟨H, 0, none⟩ = some (.slice av k cv) := (by rw [cR z1]; rfl); have hf7 : w7.frozen? ⟨H, 0, none⟩ = false := (by simp [World.frozen?, z1]); have HO7 : Hid _ := hown7; have H1 : Hid _ := z1; have H2 : Hid _ := z2; have H3 : Hid _ := z3; have H4 : Hid _ := z4; have H5 : Hid _ := z5; have H6 : Hid _ := z6; clear hown7 hg7 hm7 hat7 z1 z2 z3 z4 z5 z6)
  have hst : ∀ b, b ≠ H → (w7.setCell ⟨H, 0, none⟩ (.slice (some ⟨g7, 0, none⟩) m7 c7)).heap[b]? = w7.heap[b]? := fun b hb => heap_setCell_other w7 ⟨H, 0, none⟩ b _ hb
  refine ⟨H6.out.trans ((KeepsOthers.setCell _ _ _).from _), fun j hj => (hst j (fun e => HB.out.nz (e ▸ hj))).trans (H2.out j hj), ⟨.slice (some ⟨g7, 0, none⟩) m7 c7, ?_⟩, H5.out.setCell (p := ⟨H, 0, none⟩) (Nat.le_refl _) _, by have := H3.out; simp; omega⟩; refine ⟨heap_setCell_same w7 H 0 _ _ _ H1.out, OwnG.kept HO7.out (fun b hb => hst b (fun e => by have := (OwnG.lt' HO7.out hb).1; omega)), HB.out.nz, H4.out, fun j hj => ?_⟩; have := HB.out.zl j hj; have := H3.out; simp; omega
 case done =>
  rintro D xs Z V hD hS ⟨⟨v, hB⟩, hbv, hzs⟩ hK; obtain ⟨av, cv, hv, -, -, -, -⟩ := OwnG.val hB.ow; have hv0 := hv; obtain ⟨k, hk⟩ : ∃ k, k = xs.length := ⟨_, rfl⟩; rw [← hk] at hv; subst hv; have hc0 : V.cell? ⟨H, 0, none⟩ = some (.slice av k cv) := by rw [cR hB.bx]; rfl
  clear hv0 hk
  gi_wp2
  refine ⟨by simp, .inl ⟨_, _, rfl, run_takeDeferred hK, ?_⟩⟩; refine ⟨_, results_tmp rfl _ _ _, .slice av k cv, xs, rfl, ?_, hS, ?_⟩
  · rw [← HH.out]
    exact (OwnG.kept hB.ow (fun b hb => World.putObj_heap_other (fun e => by
      obtain ⟨cur, h9⟩ := hB.ow.at_ hb; rw [e, hK] at h9
      cases h9))).base (Nat.le_succ _)
  · exact (hbv.mono (Nat.le_of_eq HH.out.symm)).trans (belowK_b (w := w) (Nat.le_refl _) _ D _ _ (by have := HZ1.out; omega) hK rfl rfl)
 case stop =>
  rintro D c pre Z V hD hpre hno hK; exact hno.elim
end
end Go.Proofs.YtpakkpahcpgnnaaGreatDoor
namespace Go.Proofs.YtpakkpahcpgnnaaGreatDoor
open Go.RowKit Go.Maps Go.Shelf
section
set_option maxHeartbeats 3200000
set_option maxRecDepth 20000
variable {w w' : World} {P : Fp} {s : Fs} {W W' : List Wh.Tm}
abbrev kyF (Bm : Nat) : Value := .func (.func 113) #[] #[.pointer (some ⟨Bm, 0, none⟩)]
theorem fcollect {b Bm : Nat} {L : List (Nat × Nat)} (hmp : MapG KSp w b L) (hBl : Bm < w.heap.size) (hBm : w.cell? ⟨Bm, 0, none⟩ = some (.map (some b))) (hl : L.length ≤ 1000) :
 Calls Tryz.prog 112 #[kyF Bm] w fun e w' => ∃ v xs, e = .returned v ∧ OwnG KNu6 w' w.heap.size v xs ∧ xs.Perm (gk L) ∧ Below w.heap.size w w' := by
 have HA : Hid _ := fappSeq hmp hBl hBm hl; clear hmp hBm; go_enter Tryz.func112, Tryz.ntmps112
 go_wp2_with (go_at_call 138; refine Calls.mono HA.out ?_; rintro e9 w2 ⟨v2, xs, rfl, hown, hp, hb⟩; obtain ⟨a2, c2, hv2, -⟩ := OwnG.val hown; obtain ⟨n2, hn2⟩ : ∃ n2, n2 = xs.length := ⟨_, rfl⟩; rw [← hn2] at hv2; subst hv2; have HO : Hid _ := hown; have HP : Hid _ := hp; have HB : Hid _ := hb; clear hown hp hb hn2)
 go_ret; exact ⟨_, xs, rfl, HO.out, HP.out, HB.out⟩
theorem fsorted {b Bm : Nat} {L : List (Nat × Nat)} (hmp : MapG KSp w b L) (hBl : Bm < w.heap.size) (hBm : w.cell? ⟨Bm, 0, none⟩ = some (.map (some b))) (hl : L.length ≤ 12) {zs : List Nat} (hz : zs = gk L) (hu : zs.Pairwise (fun a b => a < b)) :
 Calls Tryz.prog 78 #[kyF Bm] w fun e w' => ∃ v, e = .returned v ∧ OwnG KNu6 w' w.heap.size v zs ∧ Below w.heap.size w w' := by
 have HA : Hid _ := fcollect hmp hBl hBm (by omega); have HZ : Hid _ := hz; have HU : Hid _ := hu; have HGL : Hid ((gk L).length ≤ 12) := by unfold Hid; unfold gk; rw [List.length_map]; exact hl
 clear hmp hBm hz hu; go_enter Tryz.func78, Tryz.ntmps78
 go_wp2_with (go_at_call 112; refine Calls.mono HA.out ?_; rintro e9 w2 ⟨v2, xs, rfl, hown, hp, hb⟩; obtain ⟨a2, c2, hv2, -⟩ := OwnG.val hown; obtain ⟨n2, hn2⟩ : ∃ n2, n2 = xs.length := ⟨_, rfl⟩; rw [← hn2] at hv2; subst hv2; have HO : Hid _ := hown; have HP : Hid _ := hp; have HB : Hid _ := hb; have HS : Hid _ := sort6_t hown hn2 (by rw [hn2, hp.length_eq]; exact HGL.out); have HN2 : Hid _ := hn2; clear hown hp hb hn2)
 refine Calls.mono HS.out ?_; rintro e9 w3 ⟨rfl, ys, hoy, hpy, hsy, hgy⟩
 have HY : Hid (OwnG KNu6 w3 w.heap.size (.slice a2 n2 c2) zs) := by
  unfold Hid; have e9 : ys = zs := sorted6 hpy (by rw [← HN2.out]; exact hsy) HU.out (fun i => by rw [HZ.out]; exact HP.out.mem_iff) (HP.out.nodup_iff.2 (by rw [← HZ.out, List.nodup_iff_pairwise_ne]; exact HU.out.imp (fun {a b} h9 => Nat.ne_of_lt h9))); rw [← e9]; exact hoy
 have HB3 : Hid (Below w.heap.size w w3) := HB.out.grown hgy HB.out.size (fun j hj => (OwnG.lt' HO.out hj).1); clear hoy hpy hsy hgy; go_wp2; go_ret; exact ⟨_, rfl, HY.out, HB3.out⟩
theorem fmkeys (b : Nat) : Calls Tryz.prog 79 #[.map (some b)] w fun e w' => e = .returned (kyF w.heap.size) ∧ w' = w.alloc (.cells #[.map (some b)] tMp) := by
 go_enter Tryz.func79, Tryz.ntmps79
 go_wp2; go_ret; exact ⟨rfl, rfl⟩
theorem finOrder : InOrdF := fun w P s W h => by
 have hc7 : w.cell? ⟨P.p, 7, none⟩ = some (.map (some P.ms)) := h.cell 7; have HK : Hid _ := fmkeys (w := w) P.ms; obtain ⟨w1, hw1⟩ : ∃ w1, w1 = w.alloc (.cells #[.map (some P.ms)] tMp) := ⟨_, rfl⟩; have hb1 : Below w.heap.size w w1 := by rw [hw1]; exact alw (bR _ _) _
 have hbx : w1.heap[w.heap.size]? = some (.cells #[.map (some P.ms)] tMp (0, 0)) := by rw [hw1]; exact heap_alloc_new w _
 have hlt := (sI hbx).1; have HS : Hid _ := fsorted (h.below hb1).mp hlt (by rw [cR hbx]; rfl) (by rw [mpF_len h.len]; have := h.inv.lw; have := h.inv.wn.2; omega) (mpF_keys h.len).symm (by rw [List.pairwise_map]; exact h.inv.up); rw [← hw1] at HK; have HB1 : Hid _ := hb1; clear h hw1 hbx hb1 hlt; go_enter Tryz.func46, Tryz.ntmps46
 go_wp2_with (first | (go_at_call 79; refine Calls.mono HK.out ?_; rintro e9 u2 ⟨rfl, hq⟩; subst hq) | (go_at_call 78; refine Calls.mono HS.out ?_; rintro e9 w3 ⟨v3, rfl, hown, hb3⟩; obtain ⟨a3, c3, hv3, -⟩ := OwnG.val hown; obtain ⟨n3, hn3⟩ : ∃ n3, n3 = (s.L.map Fe.n).length := ⟨_, rfl⟩; rw [← hn3] at hv3; subst hv3; have HO : Hid _ := hown; have HB3 : Hid _ := hb3; clear hown hb3 hn3))
 go_ret; exact ⟨_, rfl, OwnG.base HO.out HB1.out.size, below_next HB1.out HB3.out⟩
end
end Go.Proofs.YtpakkpahcpgnnaaGreatDoor
namespace Go.Proofs.YtpakkpahcpgnnaaGreatDoor
open Go.RowKit Go.Maps
section
set_option maxHeartbeats 3200000
set_option maxRecDepth 20000
variable {w w' : World} {P : Fp} {s : Fs} {W W' : List Wh.Tm}
theorem fbusy_t (h : FSw w P s W) : Calls Tryz.prog 15 #[.pointer (some ⟨P.p, 0, none⟩)] w fun e w' => ∃ v, e = .returned v ∧ OwnG KKy w' w.heap.size v (s.L.map Fe.k) ∧ Below w.heap.size w w' := by
 have HMD : Hid _ := fmade_t h; have HIO : Hid _ := finOrder w P s W h; have hl64 : s.L.length ≤ 8 := by have := h.inv.lw; have := h.inv.wn.2; omega
 have HH : Hid _ := h; obtain ⟨n, hn⟩ : ∃ n, n = s.L.length := ⟨_, rfl⟩; rw [← hn] at hl64; have HN : Hid _ := hn; clear h hn; go_enter Tryz.func15, Tryz.ntmps15
 go_wp2_with (first | (go_at_call 34; refine Calls.mono HMD.out ?_; rintro e u2 ⟨rfl, hq⟩; have hq := hq.symm; subst hq) | (go_at_call 46; refine Calls.mono HIO.out ?_; rintro e9 w1 ⟨v1, rfl, hown, hb1⟩; obtain ⟨a1, c1, hv1, -⟩ := OwnG.val hown; rw [List.length_map, ← HN.out] at hv1; subst hv1; have HO1 : Hid _ := hown; have HB1 : Hid _ := hb1; clear hown hb1))
 go_loopw [3, 12] (fun u j wr => ∃ k : Nat, k ≤ n ∧ j = .int .i64 (k : Int) ∧ OwnG KKy wr w1.heap.size u ((s.L.map Fe.k).take k) ∧ Below w1.heap.size w1 wr) (fun _ j _ => n - (intOf j).toNat)
 case atStart => exact ⟨0, Nat.zero_le _, rfl, World.ownsRow_nil _ _ _ _, bR _ _⟩
 case round =>
  obtain ⟨k, hkn, rfl, hown, hbw⟩ := hrel; have hkw : IntKind.i64.wrap ((k : Int) + 1) = ((k + 1 : Nat) : Int) := by rw [IntKind.wrap_i64]; omega
  by_cases hlt : k < n
  · have hlti : (k : Int) < (n : Int) := by omega
    have hk0 : (0 : Int) ≤ (k : Int) := by omega
    have hkL : k < s.L.length := by rw [← HN.out]; exact hlt
    obtain ⟨x, hx⟩ : ∃ x, s.L[k]? = some x := ⟨_, List.getElem?_eq_getElem hkL⟩; have hxe : s.L[k] = x := by rw [List.getElem?_eq_getElem hkL] at hx; exact Option.some.inj hx
    obtain ⟨m, hm⟩ : ∃ m, P.M[k]? = some m := ⟨_, List.getElem?_eq_getElem (by rw [HH.out.len]; exact hkL)⟩; have hbr : Below w.heap.size w wr := below_next HB1.out hbw; have hfr := HH.out.below hbr; obtain ⟨g1, hga, hgc⟩ := rdN6_at (OwnG.below HO1.out hbw) (by rw [List.length_map, ← HN.out]) (k := k) hlt; subst hga; simp only [List.getElem_map, hxe] at hgc; have hc7 : wr.cell? ⟨P.p, 7, none⟩ = some (.map (some P.ms)) := hfr.cell 7; have hnu : KSp.ok x.n := by show x.n < 18446744073709551616; have := (HH.out.inv.num x (List.mem_of_getElem? hx)).2; unfold mxX at this; omega
    have hl1 : (Instr.lookup tMp (.map (some P.ms)) (.int .u64 (x.n : Int)) false).run Tryz.prog wr = .ok (.pointer (some ⟨m.g, 0, none⟩)) wr := by
     have h9 := hfr.mp.get uMp zMp (s := x.n) hnu; rw [gl_mpF k HH.out.len HH.out.inv.nn hx hm] at h9; exact h9
    have hsb := (hfr.se k x m hx hm).box; have hq0 : wr.cell? ⟨m.g, 0, none⟩ = some (.int .i64 x.k.1) := by rw [cR hsb]; rfl
    have hq1 : wr.cell? ⟨m.g, 1, none⟩ = some (.int .u64 (x.k.2 : Int)) := by rw [cR hsb]; rfl
    have HT : Hid ((s.L.map Fe.k).take k ++ [x.k] = (s.L.map Fe.k).take (k + 1)) := by unfold Hid; rw [List.take_succ_eq_append_getElem (by rw [List.length_map]; exact hkL), List.getElem_map, hxe]
    have HLK : Hid (k = ((s.L.map Fe.k).take k).length) := by unfold Hid; rw [List.length_take, List.length_map]; omega
    have HSZ : Hid (w1.heap.size ≤ wr.heap.size) := hbw.size; have HO : Hid (OwnG KKy (wr.alloc (.cells #[.int .i64 x.k.1, .int .u64 (x.k.2 : Int)] tFk)) w1.heap.size u3 ((s.L.map Fe.k).take k)) := hown.below (alw (bR _ _) _); have HL3 : Hid (∀ b, u3.ownBlock = some b → w1.heap.size ≤ b) := fun b hb => (hown.lt' hb).1
    have HBW : Hid _ := hbw; clear hown hbw hkL hxe hx hm hbr hfr hnu hsb; go_wp2_with (at_builtin; refine wp_appG1 (K := KKy) rfl _ _ rfl w1.heap.size u3 ((s.L.map Fe.k).take k) x.k k HLK.out ⟨wr.heap.size, 0, none⟩ 1 rfl HO.out rfl (rdF_new _ x.k _ rfl) (by show (k + 1) * 16 ≤ _; omega) (by simp only [maxLen]; omega) (by have := HSZ.out; simp; omega) ?_; intro g7 c7 w7 hown7 hg7 hlie7; rw [HT.out] at hown7; have HO7 : Hid _ := hown7; have HG7 : Hid _ := hg7; clear hown7 hg7 hlie7)
    go_roundw
    case rel => exact ⟨k + 1, hlt, by go_num, HO7.out, (alw HBW.out _).grown HG7.out (by have := HSZ.out; simp; omega) (fun j hj => HL3.out j hj)⟩
    case measure => simp [intOf]; omega
  · have hlti : ¬ (k : Int) < (n : Int) := by omega
    have htk : (s.L.map Fe.k).take k = s.L.map Fe.k := List.take_of_length_le (by rw [List.length_map, ← HN.out]; omega); rw [htk] at hown; obtain ⟨a3, c3, hv3, -⟩ := OwnG.val hown; obtain ⟨n3, hn3⟩ : ∃ n3, n3 = (s.L.map Fe.k).length := ⟨_, rfl⟩; rw [← hn3] at hv3; subst hv3; have HO : Hid _ := hown; have HBW : Hid _ := hbw; clear hown hbw htk hn3; go_wp2; go_ret; exact ⟨_, rfl, OwnG.base HO.out HB1.out.size, below_next HB1.out HBW.out⟩
end
end Go.Proofs.YtpakkpahcpgnnaaGreatDoor
