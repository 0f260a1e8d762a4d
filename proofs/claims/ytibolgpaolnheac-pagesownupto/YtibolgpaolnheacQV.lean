import Derived.Test.YtibolgpaolnheacQW
import Derived.Test.YtibolgpaolnheacQA
namespace Go.Proofs.Ytibolgpaolnheac
set_option linter.unusedVariables false
set_option linter.unusedSimpArgs false
open Go.RowKit Go.Shelf
variable {F : Fence} {n : Nat} {P : Program}
/-- what an iterator promises whose loop stands in another iterator's body: a round keeps besides whatever is no cells and was laid since the iterator was called -/
def SeqM {α : Type} (F : Fence) (n : Nat) (P : Program) (g : Nat) (lb : Array Value) (encs : α → Array Value) (Kp : World → World → Prop) (S Sp : List α → Prop) (N : Nat) (w : World) : Prop :=
  ∀ (l : Nat) (J Jx : List α → World → Prop) (W : World), Below w.heap.size w W → OwnFrom W.heap.size J → OwnFrom W.heap.size Jx →
    (∀ pre x V, J pre V → pre.length < N → YieldAt F (n - 1) P l (encs x) V fun e V' => KeepsFrom W.heap.size V V' ∧ ((e = .returned (.bool true) ∧ J (pre ++ [x]) V' ∧ Kp V V') ∨ (e = .returned (.bool false) ∧ Jx (pre ++ [x]) V'))) →
    J [] W → CallsIn F n P g (#[.func (.yield l) #[] #[]] ++ lb) W fun e V' => (∃ v, e = .returned v) ∧ ((∃ xs, S xs ∧ J xs V') ∨ (∃ pre, Sp pre ∧ Jx pre V'))
theorem own_abides {β : Type} {B : Nat} {J : β → World → Prop} (h : OwnFrom B J) : AbidesFrom B J := fun s V V' row hs hg hr => h s V V' row hs hg (fun r e => by obtain ⟨h1, o, h2, h3⟩ := hr r e; exact ⟨h1, o, h2, Obj.not_cells_of_walk h3⟩)
/-- what asks less of its rounds serves too -/
theorem seqM_of_K {α : Type} {g : Nat} {lb : Array Value} {encs : α → Array Value} {Kp : World → World → Prop} {S Sp : List α → Prop} {N : Nat} {w : World} (h : SeqStopsK F n P g lb encs Kp S Sp N w) : SeqM F n P g lb encs Kp S Sp N w :=
  fun l J Jx W hW hJ hJx hY h0 => h l J Jx W hW (own_abides hJ) (own_abides hJx) (fun pre x V hj hl => (hY pre x V hj hl).mono fun _ _ hp => hp.2) h0
theorem keeps_up {B C : Nat} {V V' : World} (h : KeepsFrom B V V') (hBC : B ≤ C) : KeepsFrom C V V' := ⟨h.size, fun k o hk h1 h2 => h.same k o (Nat.le_trans hBC hk) h1 h2⟩
theorem keeps_put {B l : Nat} (V : World) (o : Obj) (hl : l < B) : KeepsFrom B V (V.putObj l o) := KeepsFrom.of_grownBy (grownBy_putObj' V l o) (fun j e => by cases e; exact hl)
/-- the record of the loop that was entered in w, in a state -/
abbrev recAt (fn : FuncId) (a : Act) (ps : Array Tmp) (assign body : Code) (D : Nat) (st : LoopState) (pe : Option Code) : Loop := { state := st, pending := pe, fn, tmps := a.tmps, params := ps, assign, body, defers := D }
/-- the loop's two blocks: the record and what its rounds have deferred -/
def Two (fn : FuncId) (a : Act) (ps : Array Tmp) (assign body : Code) (D : Nat) (st : LoopState) (pe : Option Code) (V : World) : Prop :=
  V.heap[D + 1]? = some (.loop (recAt fn a ps assign body D st pe)) ∧ V.heap[D]? = some (.deferred (some []))
section
variable {fn : FuncId} {a : Act} {ps : Array Tmp} {assign body : Code} {D : Nat} {st : LoopState} {pe : Option Code} {V V' : World}
theorem Two.lt (h : Two fn a ps assign body D st pe V) : D + 1 < V.heap.size := (Array.getElem?_eq_some_iff.1 h.1).1
theorem Two.keep (h : Two fn a ps assign body D st pe V) (k : KeepsFrom D V V') : Two fn a ps assign body D st pe V' := ⟨k.same _ _ (Nat.le_succ _) h.1 rfl, k.same _ _ (Nat.le_refl _) h.2 rfl⟩
theorem Two.turn (h : Two fn a ps assign body D st pe V) (st' : LoopState) (pe' : Option Code) : Two fn a ps assign body D st' pe' (V.putObj (D + 1) (.loop (recAt fn a ps assign body D st' pe'))) :=
  ⟨World.putObj_heap_same h.lt, (World.putObj_heap_other (by omega)).trans h.2⟩
theorem Two.far {B : Nat} (h : Two fn a ps assign body D st pe V) (hB : D + 1 < B) {row : Option Nat} (hg : V.grownBy V' row) (hr : ∀ r, row = some r → B ≤ r) : Two fn a ps assign body D st pe V' :=
  ⟨(hg.block _ h.lt (fun e => by have := hr _ e.symm; omega)).trans h.1, (hg.block _ (Nat.lt_of_succ_lt h.lt) (fun e => by have := hr _ e.symm; omega)).trans h.2⟩
end
set_option maxHeartbeats 2000000 in
theorem wpIn_rangeFunc_M {α : Type} {g : Operand} {ps : Array Tmp} {assign body : Code} {Q : Exit → Act → World → Prop} {a : Act} {w : World}
    (hro : F.round = none) (h1 : 1 ≤ n) {gf : Nat} {lb : Array Value} (hg : a.eval g = .func (.func gf) #[] lb) (hFg : F.fn gf) (eg : ∀ args w, (callFunc gf args).run P w = .ok (.enter gf args) w)
    {encs : α → Array Value} {n₀ : Nat} {S Sp : List α → Prop} {N : Nat} {w0 : World} (hseq : SeqM F (n - 1) P gf lb encs (Below n₀) S Sp N w0) (hn₀ : n₀ ≤ w.heap.size) (hb0 : Below w0.heap.size w0 w) (hps : ∀ x, (encs x).size = ps.size)
    (I : List α → World → Prop) (Ix : Code → List α → World → Prop) (hI : OwnFrom w.heap.size I) (hIx : ∀ c, OwnFrom w.heap.size (Ix c)) (h0 : I [] w) (Ax : α → Act → World → Prop) (hAx : ∀ x a', OwnFrom w.heap.size (fun (_ : Unit) W => Ax x a' W))
    (hassign : ∀ (l : Nat) (pre : List α) (x : α) (W : World) (K : Act → World → Prop), I pre W → (∀ a' W', KeepsFrom w.heap.size W W' → Below n₀ W W' → I pre W' → Ax x a' W' → K a' W') →
      assign.wpIn (F.inRound l) (n - 1 - 1) P (Exit.then K (fun _ _ _ => False)) { tmps := (ps.zip (encs x)).foldl (fun t (p, v) => t.setIfInBounds p v) a.tmps, defers := [] } W)
    (hbody : ∀ (l : Nat) (pre : List α) (x : α) (a' : Act) (W : World), w.heap.size ≤ l → (∃ r, W.heap[l]? = some (.loop r)) → I pre W → Ax x a' W → pre.length < N → body.wpIn (F.inRound l) (n - 1 - 1) P (ownPostG w.heap.size (Below n₀) I Ix (pre ++ [x]) W) a' W)
    (hdone : ∀ (D : Nat) (xs : List α) (W : World), w.heap.size ≤ D → S xs → I xs W → W.heap[D]? = some (.deferred (some [])) → Q .normal { a with defers := { target := .collected D, args := #[] } :: a.defers } W)
    (hstop : ∀ (D : Nat) (c : Code) (pre : List α) (W : World), w.heap.size ≤ D → Sp pre → Ix c pre W → W.heap[D]? = some (.deferred (some [])) → c.wpIn F n P Q { a with defers := { target := .collected D, args := #[] } :: a.defers } W) :
    (Code.rangeFunc g ps assign body).wpIn F n P Q a w := by
  refine wpIn_rangeFunc fun fn hfn => ?_
  rw [hro]
  obtain ⟨W1, hW1⟩ : ∃ W1, W1 = (w.alloc (.deferred (some []))).alloc (.loop (recAt fn a ps assign body w.heap.size .ready none)) := ⟨_, rfl⟩
  have hsz : W1.heap.size = w.heap.size + 2 := by rw [hW1]; simp
  have hT : Two fn a ps assign body w.heap.size .ready none W1 := by rw [hW1]; exact ⟨(two_new w _ _).2, (two_new w _ _).1⟩
  have hB1 : Below w.heap.size w W1 := by rw [hW1]; exact al (al (Below.refl _ _) _) _
  have hI1 : I [] W1 := by rw [hW1]; exact hI.alloc _ (hI.alloc _ h0)
  refine ⟨w.heap.size + 1, [{ target := .collected w.heap.size, args := #[] }], W1, { target := .fn (.func gf) lb, args := #[.func (.yield (w.heap.size + 1)) #[] #[]] }, W1, gf, #[.func (.yield (w.heap.size + 1)) #[] #[]] ++ lb, W1, ?_, ?_, ?_, ?_, fun _ => h1, ?_⟩
  · rw [hW1]; exact run_enterLoop_outer _ _ _ _ _
  · simp only [resolve, hg]; simp [go_sem]
  · intro f hf; simp [Target.leads] at hf; subst hf; exact hFg
  · simp [invoke, go_sem, eg]
  refine (hseq (w.heap.size + 1) (fun pre V => I pre V ∧ Two fn a ps assign body w.heap.size .ready none V) (fun pre V => ∃ c, Ix c pre V ∧ Two fn a ps assign body w.heap.size .done (some c) V) W1 (hb0.trans (hB1.mono hb0.size))
    (fun s A B row hs hg' hr => ⟨hI s A B row hs.1 hg' (fun r e => ⟨by have := (hr r e).1; omega, (hr r e).2⟩), hs.2.far (B := W1.heap.size) (by omega) hg' (fun r e => (hr r e).1)⟩)
    (fun s A B row ⟨c, hc, ht⟩ hg' hr => ⟨c, hIx c s A B row hc hg' (fun r e => ⟨by have := (hr r e).1; omega, (hr r e).2⟩), ht.far (B := W1.heap.size) (by omega) hg' (fun r e => (hr r e).1)⟩) ?round ⟨hI1, hT⟩).mono ?_
  case round =>
    rintro pre x V ⟨hi, ht⟩ hlen
    refine ⟨fn, _, assign, body, run_yield (P := P) (args := encs x) ht.1 (hps x), roundIn_of_wpIn hfn (hassign _ pre x V _ hi ?_)⟩
    intro a' Va hka hba hia hxa
    have hta := ht.keep hka
    refine ⟨_, run_beginRound hta.1 rfl, ?_⟩
    have htb := hta.turn .busy none
    have hbb : Below n₀ Va (Va.putObj (w.heap.size + 1) (.loop (recAt fn a ps assign body w.heap.size .busy none))) := belowK_b hn₀ Va (w.heap.size + 1) _ _ (Nat.le_succ _) hta.1 rfl rfl
    refine wpIn_mono (hbody _ pre x a' _ (Nat.le_succ _) ⟨_, htb.1⟩ (hI.putObj _ hia (Nat.le_succ _) hta.1 rfl) ((hAx x a').putObj (s := ()) _ hxa (Nat.le_succ _) hta.1 rfl) hlen) ?_
    have kr : ∀ V3, KeepsFrom w.heap.size (Va.putObj (w.heap.size + 1) (.loop (recAt fn a ps assign body w.heap.size .busy none))) V3 → ∀ o, KeepsFrom W1.heap.size V (V3.putObj (w.heap.size + 1) o) := fun V3 k3 o => by
      have hle : w.heap.size ≤ W1.heap.size := by omega
      exact (((keeps_up hka hle).trans (keeps_put Va _ (by omega))).trans (keeps_up k3 hle)).trans (keeps_put V3 o (by omega))
    have leave : ∀ c V3, KeepsFrom w.heap.size (Va.putObj (w.heap.size + 1) (.loop (recAt fn a ps assign body w.heap.size .busy none))) V3 → Ix c (pre ++ [x]) V3 → ∃ v V4, (Instr.endRound (w.heap.size + 1) (some c)).run P V3 = .ok v V4 ∧ (KeepsFrom W1.heap.size V V4 ∧ ((Ending.returned v = .returned (.bool true) ∧ (I (pre ++ [x]) V4 ∧ Two fn a ps assign body w.heap.size .ready none V4) ∧ Below n₀ V V4) ∨ (Ending.returned v = .returned (.bool false) ∧ ∃ c, Ix c (pre ++ [x]) V4 ∧ Two fn a ps assign body w.heap.size .done (some c) V4))) := fun c V3 k3 hx3 => by
      have ht3 := htb.keep k3
      exact ⟨_, _, run_endRound (P := P) (some c) ht3.1, kr V3 k3 _, .inr ⟨rfl, c, (hIx c).putObj _ hx3 (Nat.le_succ _) ht3.1 rfl, ht3.turn .done (some c)⟩⟩
    intro e a3 V3 hp
    cases e with
    | normal =>
      obtain ⟨k3, b3, i3⟩ := hp
      have ht3 := htb.keep k3
      exact ⟨_, _, run_endRound (P := P) none ht3.1, kr V3 k3 _, .inl ⟨rfl, ⟨hI.putObj _ i3 (Nat.le_succ _) ht3.1 rfl, ht3.turn .ready none⟩, hba.trans ((hbb.trans b3).trans (belowK_b hn₀ V3 (w.heap.size + 1) _ _ (Nat.le_succ _) ht3.1 rfl rfl))⟩⟩
    | ret => exact leave _ V3 hp.1 hp.2
    | exit id => exact leave _ V3 hp.1 hp.2
    | goto t => exact leave _ V3 hp.1 hp.2
    | panic ch => exact hp.elim
    | outgrown => exact hp.elim
  rintro e V2 ⟨⟨v, rfl⟩, (⟨xs, hS, hi, ht⟩ | ⟨pre, hSp, c, hi, ht⟩)⟩
  · exact ⟨none, _, run_endLoop (P := P) ht.1 (by simp), hdone _ xs _ (Nat.le_refl _) hS (hI.putObj _ hi (Nat.le_succ _) ht.1 rfl) ((World.putObj_heap_other (by omega)).trans ht.2)⟩
  · exact ⟨some c, _, run_endLoop (P := P) ht.1 (by simp), hstop _ c pre _ (Nat.le_refl _) hSp ((hIx c).putObj _ hi (Nat.le_succ _) ht.1 rfl) ((World.putObj_heap_other (by omega)).trans ht.2)⟩
end Go.Proofs.Ytibolgpaolnheac
namespace Go.Proofs.Ytibolgpaolnheac
set_option linter.unusedVariables false
set_option linter.unusedSimpArgs false
open Go.RowKit Go.Shelf
attribute [local go_sem] Oper.semAt_some
theorem yield_any {m m' : Nat} {P : Program} {l : Nat} {args : Array Value} {W : World} {R : Ending → World → Prop} (h : YieldAt Fence.wide m P l args W R) : YieldAt Fence.wide m' P l args W R := by
  obtain ⟨fn, tmps, assign, body, h1, h2⟩ := h
  exact ⟨fn, tmps, assign, body, h1, ⟨h2.1, fun c cs _ => h2.2 c cs (room_wide _)⟩⟩
section
set_option maxRecDepth 20000
set_option maxHeartbeats 3200000
/-- slices.Clone of a row of pages -/
theorem cloneP_t (b o n cap : Nat) (P : List (List Ent)) (w : World) (hn : n = P.length) (h0 : 0 < n) (hx : RdP w (some ⟨b, o, none⟩) P) (hl : n ≤ 4398046511104) (hne : ∀ p ∈ P, 0 < p.length) :
    Calls Try.prog 58 #[.slice (some ⟨b, o, none⟩) n cap] w fun e w' => ∃ g c, e = .returned (.slice (some ⟨g, 0, none⟩) n c) ∧ RdP w' (some ⟨g, 0, none⟩) P ∧ w.heap.size ≤ g ∧ Below w.heap.size w w' := by
  have q22 : ∀ (w : World) (a : Option Addr) (n c n' c' : Nat), (binOp .eql tPs (.slice a n c) (.slice none n' c')).run Try.prog w = .ok (.bool a.isNone) w := fun w a n c n' c' => Lib.run_eql_slice_nil w _ _ a n c n' c' Try.underlying66
  obtain ⟨i0, hi, hz0, hz1, hz2⟩ := info_parts (show (Try.prog.info? tPg).map (fun i => (i.zero, i.size, i.bytes)) = some (some (.slice none 0 0), 1, 24) by kernel_rfl)
  obtain ⟨A, C, hA⟩ := hx.fix
  obtain ⟨us, hul, hus⟩ : ∃ us : List Value, us.length = n ∧ ∀ j (hj : j < P.length), us[j]? = some (.slice (A j) P[j].length (C j)) := by
    refine ⟨(List.range n).map (fun j => .slice (A j) (P.getD j []).length (C j)), by simp, fun j hj => ?_⟩
    simp [show j < n by omega, List.getD, hj]
  obtain ⟨X, hX⟩ : ∃ X : World, X = w.alloc (.cells #[] tPg) := ⟨_, rfl⟩
  have hbX : Below w.heap.size w X := by rw [hX]; exact al (Below.refl _ _) _
  have HOX : Hid (X.ownsRow w.heap.size tPg 1 (.slice (some ⟨w.heap.size, 0, none⟩) 0 0) 0 []) := (show X.ownsRow w.heap.size tPg 1 (.slice (some ⟨w.heap.size, 0, none⟩) 0 0) 0 [] by rw [hX]; exact World.ownsRow_made w #[] 0 (Nat.le_refl _) (Nat.zero_le _) rfl)
  have HCX : Hid (∀ j u, us[j]? = some u → X.cell? (Addr.add ⟨b, o, none⟩ j) = some u) := fun j u hj => by
    have hjn : j < n := by have := (List.getElem?_eq_some_iff.1 hj).1; omega
    obtain ⟨b', o', e, h1, -⟩ := (hA.below hbX) j (by omega)
    cases e
    rw [Go.WideShapes.add_plain, h1, ← hus j (by omega), hj]
  have HU1 : Hid (∀ u ∈ us, u.oneCell' = true) := fun u hu => by
    obtain ⟨j, hj, e⟩ := List.getElem_of_mem hu
    have h9 := hus j (by omega)
    rw [List.getElem?_eq_getElem hj, e] at h9
    cases h9; rfl
  have HBX : Hid _ := hbX
  have HAX : Hid (RdPA X (some ⟨b, o, none⟩) P A C) := hA.below hbX
  have HUS : Hid _ := hus
  have HUL : Hid (us.length = n) := hul
  have HN : Hid (n = P.length) := hn
  clear hbX hA hus hul hn hx
  go_enter Try.func58, Try.ntmps58
  go_wp2_with (at_builtin; rw [← hX]; refine wpList_append_lies _ rfl _ _ tPs rfl w.heap.size tPg i0 _ 1 24 Try.underlying66 hi hz0 hz1 hz2 rfl (by decide) _ 0 [] rfl HOX.out ⟨b, o, none⟩ n cap us rfl (by rw [HUL.out, Nat.mul_one]) HCX.out HU1.out h0 (by simp only [maxLen]; omega) (by omega) (by rw [hX]; simp) X.heap.size rfl ?_; intro g1 cap1 w1 hown1 hg1 hl1 _; have HO1 : Hid _ := hown1; have HG1 : Hid _ := hg1; have HL1 : Hid _ := hl1; clear hown1 hg1 hl1)
  go_ret
  have hO := HO1.out
  rw [Nat.zero_add, List.nil_append] at hO
  have hC : Chg (fun b => b = w.heap.size) X w1 := Chg.of_grown HG1.out (fun b e => by cases e; rfl)
  have hNN : ∀ b, b = w.heap.size → NoNum X b := fun b e => by subst e; exact ⟨_, tPg, _, by rw [hX]; exact heap_alloc_new w _, by decide⟩
  refine ⟨g1, cap1, rfl, fun j hj => ?_, HL1.out.elim (fun e => by cases e; exact Nat.le_refl _) (fun e => by rw [e]; exact HBX.out.size), HBX.out.grown HG1.out HBX.out.size (fun k e => by cases e; exact Nat.le_refl _)⟩
  obtain ⟨b', o', e, h1, h2, h3⟩ := HAX.out j hj
  refine ⟨g1, 0, rfl, A j, C j, ?_, h2, fun e9 => ?_, h3.kept hC hNN⟩
  · rw [Nat.zero_add, World.ownsRow.cellAt hO j (by have := HN.out; omega), HUS.out j hj]
  · obtain ⟨b9, o9, e8, -⟩ := h3 0 (hne _ (List.getElem_mem hj))
    rw [e9] at e8; cases e8
end
end Go.Proofs.Ytibolgpaolnheac
namespace Go.Proofs.Ytibolgpaolnheac
set_option linter.unusedVariables false
set_option linter.unusedSimpArgs false
open Go.RowKit Go.Shelf
variable {F : Fence} {n : Nat} {P : Program}
abbrev BlkS := Nat → Prop
/-- the blocks of Z are as they were -/
def KeepZ (Z : BlkS) (V V' : World) : Prop := ∀ k, Z k → V'.heap[k]? = V.heap[k]?
/-- what is said of a state with protected blocks: new blocks may join them, some may be given up; blocks that are no cells may turn from B on -/
structure Gro {β : Type} (B : Nat) (J : β → BlkS → World → Prop) : Prop where
  grow : ∀ s Z V V' row, J s Z V → V.grownBy V' row → (∀ r, row = some r → B ≤ r ∧ ∃ o : Obj, V.heap[r]? = some o ∧ o.isCells = false) → J s (fun k => Z k ∨ (V.heap.size ≤ k ∧ k < V'.heap.size)) V'
  less : ∀ s Z Z' V, J s Z V → (∀ k, Z' k → Z k) → J s Z' V
theorem Gro.turn {β : Type} {B : Nat} {J : β → BlkS → World → Prop} (h : Gro B J) {s : β} {Z : BlkS} {V : World} {l : Nat} {o : Obj} (o' : Obj) (hs : J s Z V) (hB : B ≤ l) (hl : V.heap[l]? = some o) (ho : o.isCells = false) : J s Z (V.putObj l o') :=
  h.less _ _ _ _ (h.grow s Z V _ (some l) hs (grownBy_putObj' V l o') (fun r e => by cases e; exact ⟨hB, o, hl, ho⟩)) (fun k hk => .inl hk)
theorem Gro.new {β : Type} {B : Nat} {J : β → BlkS → World → Prop} (h : Gro B J) {s : β} {Z : BlkS} {V : World} (o : Obj) (hs : J s Z V) : J s Z (V.alloc o) :=
  h.less _ _ _ _ (h.grow s Z V _ none hs (World.grownBy_alloc V o none) (fun r e => by cases e)) (fun k hk => .inl hk)
/-- what lies from B on is no cells -/
def NonC (B : Nat) (W : World) : Prop := ∀ k, B ≤ k → k < W.heap.size → ∃ o : Obj, W.heap[k]? = some o ∧ o.isCells = false
/-- an iterator's contract, with protected blocks -/
def SeqG {α : Type} (F : Fence) (n : Nat) (P : Program) (g : Nat) (lb : Array Value) (encs : α → Array Value) (Z0 : BlkS) (S Sp : List α → Prop) (N : Nat) (w : World) : Prop :=
  ∀ (l : Nat) (J Jx : List α → BlkS → World → Prop) (W : World), Below w.heap.size w W → NonC w.heap.size W → Gro W.heap.size J → Gro W.heap.size Jx →
    (∀ pre Z x V, J pre Z V → pre.length < N → YieldAt F (n - 1) P l (encs x) V fun e V' => KeepsFrom W.heap.size V V' ∧ KeepZ Z V V' ∧ ((e = .returned (.bool true) ∧ J (pre ++ [x]) Z V') ∨ (e = .returned (.bool false) ∧ Jx (pre ++ [x]) Z V'))) →
    J [] Z0 W → CallsIn F n P g (#[.func (.yield l) #[] #[]] ++ lb) W fun e V' => (∃ v, e = .returned v) ∧ ((∃ xs Z, S xs ∧ J xs Z V') ∨ (∃ pre Z, Sp pre ∧ Jx pre Z V'))
/-- how a round's body may be left -/
def postZ {α : Type} (B : Nat) (Z : BlkS) (I : List α → BlkS → World → Prop) (Ix : Code → List α → BlkS → World → Prop) (xs : List α) (W : World) : Exit → Act → World → Prop
  | .normal, _, W' => KeepsFrom B W W' ∧ KeepZ Z W W' ∧ I xs Z W'
  | .ret, _, W' => KeepsFrom B W W' ∧ KeepZ Z W W' ∧ Ix .ret xs Z W'
  | .exit id, _, W' => KeepsFrom B W W' ∧ KeepZ Z W W' ∧ Ix (.exit id) xs Z W'
  | .goto t, _, W' => KeepsFrom B W W' ∧ KeepZ Z W W' ∧ Ix (.goto t) xs Z W'
  | .panic _, _, _ => False
  | .outgrown, _, _ => False
theorem KeepZ.trans {Z : BlkS} {A B C : World} (h : KeepZ Z A B) (k : KeepZ Z B C) : KeepZ Z A C := fun i hi => (k i hi).trans (h i hi)
theorem keepZ_put {Z : BlkS} {l : Nat} (V : World) (o : Obj) (h : ¬ Z l) : KeepZ Z V (V.putObj l o) := fun k hk => World.putObj_heap_other (fun e => h (e ▸ hk))
set_option maxHeartbeats 2000000 in
theorem wpIn_rangeFunc_G {α : Type} {g : Operand} {ps : Array Tmp} {assign body : Code} {Q : Exit → Act → World → Prop} {a : Act} {w : World}
    (hro : F.round = none) (h1 : 1 ≤ n) {gf : Nat} {lb : Array Value} (hg : a.eval g = .func (.func gf) #[] lb) (hFg : F.fn gf) (eg : ∀ args w, (callFunc gf args).run P w = .ok (.enter gf args) w)
    {encs : α → Array Value} {Z0 : BlkS} {S Sp : List α → Prop} {N : Nat} (hseq : SeqG F (n - 1) P gf lb encs Z0 S Sp N w) (hZ0 : ∀ k, Z0 k → k < w.heap.size) (hps : ∀ x, (encs x).size = ps.size)
    (I : List α → BlkS → World → Prop) (Ix : Code → List α → BlkS → World → Prop) (hI : Gro w.heap.size I) (hIx : ∀ c, Gro w.heap.size (Ix c)) (h0 : I [] Z0 w) (Ax : α → Act → World → Prop) (hAx : ∀ x a', OwnFrom w.heap.size (fun (_ : Unit) W => Ax x a' W))
    (hassign : ∀ (l : Nat) (pre : List α) (Z : BlkS) (x : α) (W : World) (K : Act → World → Prop), I pre Z W → (∀ a' W', KeepsFrom w.heap.size W W' → KeepZ Z W W' → I pre Z W' → Ax x a' W' → K a' W') →
      assign.wpIn (F.inRound l) (n - 1 - 1) P (Exit.then K (fun _ _ _ => False)) { tmps := (ps.zip (encs x)).foldl (fun t (p, v) => t.setIfInBounds p v) a.tmps, defers := [] } W)
    (hbody : ∀ (l : Nat) (pre : List α) (Z : BlkS) (x : α) (a' : Act) (W : World), w.heap.size ≤ l → (∃ r, W.heap[l]? = some (.loop r)) → I pre Z W → Ax x a' W → pre.length < N → body.wpIn (F.inRound l) (n - 1 - 1) P (postZ w.heap.size Z I Ix (pre ++ [x]) W) a' W)
    (hdone : ∀ (D : Nat) (xs : List α) (Z : BlkS) (W : World), w.heap.size ≤ D → S xs → I xs Z W → W.heap[D]? = some (.deferred (some [])) → Q .normal { a with defers := { target := .collected D, args := #[] } :: a.defers } W)
    (hstop : ∀ (D : Nat) (c : Code) (pre : List α) (Z : BlkS) (W : World), w.heap.size ≤ D → Sp pre → Ix c pre Z W → W.heap[D]? = some (.deferred (some [])) → c.wpIn F n P Q { a with defers := { target := .collected D, args := #[] } :: a.defers } W) :
    (Code.rangeFunc g ps assign body).wpIn F n P Q a w := by
  refine wpIn_rangeFunc fun fn hfn => ?_
  rw [hro]
  obtain ⟨W1, hW1⟩ : ∃ W1, W1 = (w.alloc (.deferred (some []))).alloc (.loop (recAt fn a ps assign body w.heap.size .ready none)) := ⟨_, rfl⟩
  have hsz : W1.heap.size = w.heap.size + 2 := by rw [hW1]; simp
  have hT : Two fn a ps assign body w.heap.size .ready none W1 := by rw [hW1]; exact ⟨(two_new w _ _).2, (two_new w _ _).1⟩
  have hB1 : Below w.heap.size w W1 := by rw [hW1]; exact al (al (Below.refl _ _) _) _
  have hI1 : I [] Z0 W1 := by rw [hW1]; exact hI.new _ (hI.new _ h0)
  refine ⟨w.heap.size + 1, [{ target := .collected w.heap.size, args := #[] }], W1, { target := .fn (.func gf) lb, args := #[.func (.yield (w.heap.size + 1)) #[] #[]] }, W1, gf, #[.func (.yield (w.heap.size + 1)) #[] #[]] ++ lb, W1, ?_, ?_, ?_, ?_, fun _ => h1, ?_⟩
  · rw [hW1]; exact run_enterLoop_outer _ _ _ _ _
  · simp only [resolve, hg]; simp [go_sem]
  · intro f hf; simp [Target.leads] at hf; subst hf; exact hFg
  · simp [invoke, go_sem, eg]
  have gro : ∀ {J : List α → BlkS → World → Prop} {st : LoopState} {pe : Option Code}, Gro w.heap.size J → Gro W1.heap.size (fun s Z V => J s Z V ∧ Two fn a ps assign body w.heap.size st pe V ∧ ¬ Z (w.heap.size + 1)) := fun hJ => ⟨fun s Z V V' row hs hg' hr => ⟨hJ.grow s Z V V' row hs.1 hg' (fun r e => ⟨by have := (hr r e).1; omega, (hr r e).2⟩), hs.2.1.far (B := W1.heap.size) (by omega) hg' (fun r e => (hr r e).1), fun hz => by
      rcases hz with hz | ⟨hz, -⟩
      · exact hs.2.2 hz
      · have := hs.2.1.lt; omega⟩, fun s Z Z' V hs hz => ⟨hJ.less s Z Z' V hs.1 hz, hs.2.1, fun h9 => hs.2.2 (hz _ h9)⟩⟩
  refine (hseq (w.heap.size + 1) (fun pre Z V => I pre Z V ∧ Two fn a ps assign body w.heap.size .ready none V ∧ ¬ Z (w.heap.size + 1)) (fun pre Z V => ∃ c, Ix c pre Z V ∧ Two fn a ps assign body w.heap.size .done (some c) V ∧ ¬ Z (w.heap.size + 1)) W1 hB1 (fun k h2 h3 => by
      have : k = w.heap.size ∨ k = w.heap.size + 1 := by omega
      rcases this with rfl | rfl
      · exact ⟨_, hT.2, rfl⟩
      · exact ⟨_, hT.1, rfl⟩)
    (gro hI) ⟨fun s Z V V' row ⟨c, hc⟩ hg' hr => ⟨c, (gro (hIx c)).grow s Z V V' row hc hg' hr⟩, fun s Z Z' V ⟨c, hc⟩ hz => ⟨c, (gro (hIx c)).less s Z Z' V hc hz⟩⟩ ?round ⟨hI1, hT, fun h9 => by have := hZ0 _ h9; omega⟩).mono ?_
  case round =>
    rintro pre Z x V ⟨hi, ht, hzn⟩ hlen
    refine ⟨fn, _, assign, body, run_yield (P := P) (args := encs x) ht.1 (hps x), roundIn_of_wpIn hfn (hassign _ pre Z x V _ hi ?_)⟩
    intro a' Va hka hza hia hxa
    have hta := ht.keep hka
    refine ⟨_, run_beginRound hta.1 rfl, ?_⟩
    have htb := hta.turn .busy none
    refine wpIn_mono (hbody _ pre Z x a' _ (Nat.le_succ _) ⟨_, htb.1⟩ (hI.turn _ hia (Nat.le_succ _) hta.1 rfl) ((hAx x a').putObj (s := ()) _ hxa (Nat.le_succ _) hta.1 rfl) hlen) ?_
    have kr : ∀ V3, KeepsFrom w.heap.size (Va.putObj (w.heap.size + 1) (.loop (recAt fn a ps assign body w.heap.size .busy none))) V3 → KeepZ Z (Va.putObj (w.heap.size + 1) (.loop (recAt fn a ps assign body w.heap.size .busy none))) V3 → ∀ o, KeepsFrom W1.heap.size V (V3.putObj (w.heap.size + 1) o) ∧ KeepZ Z V (V3.putObj (w.heap.size + 1) o) := fun V3 k3 z3 o => by
      have hle : w.heap.size ≤ W1.heap.size := by omega
      exact ⟨(((keeps_up hka hle).trans (keeps_put Va _ (by omega))).trans (keeps_up k3 hle)).trans (keeps_put V3 o (by omega)), ((hza.trans (keepZ_put Va _ hzn)).trans z3).trans (keepZ_put V3 o hzn)⟩
    have leave : ∀ c V3, KeepsFrom w.heap.size (Va.putObj (w.heap.size + 1) (.loop (recAt fn a ps assign body w.heap.size .busy none))) V3 → KeepZ Z (Va.putObj (w.heap.size + 1) (.loop (recAt fn a ps assign body w.heap.size .busy none))) V3 → Ix c (pre ++ [x]) Z V3 → ∃ v V4, (Instr.endRound (w.heap.size + 1) (some c)).run P V3 = .ok v V4 ∧ (KeepsFrom W1.heap.size V V4 ∧ KeepZ Z V V4 ∧ ((Ending.returned v = .returned (.bool true) ∧ (I (pre ++ [x]) Z V4 ∧ Two fn a ps assign body w.heap.size .ready none V4 ∧ ¬ Z (w.heap.size + 1))) ∨ (Ending.returned v = .returned (.bool false) ∧ ∃ c, Ix c (pre ++ [x]) Z V4 ∧ Two fn a ps assign body w.heap.size .done (some c) V4 ∧ ¬ Z (w.heap.size + 1)))) := fun c V3 k3 z3 hx3 => by
      have ht3 := htb.keep k3
      exact ⟨_, _, run_endRound (P := P) (some c) ht3.1, (kr V3 k3 z3 _).1, (kr V3 k3 z3 _).2, .inr ⟨rfl, c, (hIx c).turn _ hx3 (Nat.le_succ _) ht3.1 rfl, ht3.turn .done (some c), hzn⟩⟩
    intro e a3 V3 hp
    cases e with
    | normal =>
      obtain ⟨k3, z3, i3⟩ := hp
      have ht3 := htb.keep k3
      exact ⟨_, _, run_endRound (P := P) none ht3.1, (kr V3 k3 z3 _).1, (kr V3 k3 z3 _).2, .inl ⟨rfl, hI.turn _ i3 (Nat.le_succ _) ht3.1 rfl, ht3.turn .ready none, hzn⟩⟩
    | ret => exact leave _ V3 hp.1 hp.2.1 hp.2.2
    | exit id => exact leave _ V3 hp.1 hp.2.1 hp.2.2
    | goto t => exact leave _ V3 hp.1 hp.2.1 hp.2.2
    | panic ch => exact hp.elim
    | outgrown => exact hp.elim
  rintro e V2 ⟨⟨v, rfl⟩, (⟨xs, Z, hS, hi, ht, -⟩ | ⟨pre, Z, hSp, c, hi, ht, -⟩)⟩
  · exact ⟨none, _, run_endLoop (P := P) ht.1 (by simp), hdone _ xs Z _ (Nat.le_refl _) hS (hI.turn _ hi (Nat.le_succ _) ht.1 rfl) ((World.putObj_heap_other (by omega)).trans ht.2)⟩
  · exact ⟨some c, _, run_endLoop (P := P) ht.1 (by simp), hstop _ c pre Z _ (Nat.le_refl _) hSp ((hIx c).turn _ hi (Nat.le_succ _) ht.1 rfl) ((World.putObj_heap_other (by omega)).trans ht.2)⟩
end Go.Proofs.Ytibolgpaolnheac
