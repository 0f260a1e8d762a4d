import Derived.Test.YtnhjkipaclchiaaQT
namespace Go.Proofs.Ytnhjkipaclchiaa
set_option linter.unusedVariables false
set_option linter.unusedSimpArgs false
open Go.RowKit Go.Shelf
attribute [local go_sem] Oper.semAt_some
theorem yield_any {m m' : Nat} {P : Program} {l : Nat} {args : Array Value} {W : World} {R : Ending → World → Prop} (h : YieldAt Fence.wide m P l args W R) : YieldAt Fence.wide m' P l args W R := by
  obtain ⟨fn, tmps, assign, body, h1, h2⟩ := h
  exact ⟨fn, tmps, assign, body, h1, ⟨h2.1, fun c cs _ => h2.2 c cs (room_wide _)⟩⟩
section
set_option maxRecDepth 20000
set_option maxHeartbeats 3200000
/-- slices.Clone of a row of pages -/
theorem cloneP_t (b o n cap : Nat) (P : List (List Ent)) (w : World) (hn : n = P.length) (h0 : 0 < n) (hx : RdP w (some ⟨b, o, none⟩) P) (hl : n ≤ 4398046511104) (hne : ∀ p ∈ P, 0 < p.length) :
    Calls Try.prog 55 #[.slice (some ⟨b, o, none⟩) n cap] w fun e w' => ∃ g c, e = .returned (.slice (some ⟨g, 0, none⟩) n c) ∧ RdP w' (some ⟨g, 0, none⟩) P ∧ w.heap.size ≤ g ∧ Below w.heap.size w w' := by
  have q22 : ∀ (w : World) (a : Option Addr) (n c n' c' : Nat), (binOp .eql tPs (.slice a n c) (.slice none n' c')).run Try.prog w = .ok (.bool a.isNone) w := fun w a n c n' c' => Lib.run_eql_slice_nil w _ _ a n c n' c' Try.underlying71
  obtain ⟨i0, hi, hz0, hz1, hz2⟩ := info_parts (show (Try.prog.info? tPg).map (fun i => (i.zero, i.size, i.bytes)) = some (some (.slice none 0 0), 1, 24) by kernel_rfl)
  obtain ⟨A, C, hA⟩ := hx.fix
  obtain ⟨us, hul, hus⟩ : ∃ us : List Value, us.length = n ∧ ∀ j (hj : j < P.length), us[j]? = some (.slice (A j) P[j].length (C j)) := by
    refine ⟨(List.range n).map (fun j => .slice (A j) (P.getD j []).length (C j)), by simp, fun j hj => ?_⟩
    simp [show j < n by omega, List.getD, hj]
  obtain ⟨X, hX⟩ : ∃ X : World, X = w.alloc (.cells #[] tPg) := ⟨_, rfl⟩
  have hbX : Below w.heap.size w X := by rw [hX]; exact al (Below.refl _ _) _
  have HOX : Hid (X.ownsRow w.heap.size tPg 1 (.slice (some ⟨w.heap.size, 0, none⟩) 0 0) 0 []) := (show X.ownsRow w.heap.size tPg 1 (.slice (some ⟨w.heap.size, 0, none⟩) 0 0) 0 [] by rw [hX]; exact World.ownsRow_made w #[] 0 (Nat.le_refl _) (Nat.zero_le _) rfl)
  have HCX : Hid (∀ j u, us[j]? = some u → X.cell? (Addr.add ⟨b, o, none⟩ j) = some u) := fun j u hj => by
    have hjn : j < n := by have := (List.getElem?_eq_some_iff.1 hj).1; omega
    obtain ⟨b', o', e, h1, -⟩ := (hA.below hbX) j (by omega)
    cases e
    rw [Go.WideShapes.add_plain, h1, ← hus j (by omega), hj]
  have HU1 : Hid (∀ u ∈ us, u.oneCell' = true) := fun u hu => by
    obtain ⟨j, hj, e⟩ := List.getElem_of_mem hu
    have h9 := hus j (by omega)
    rw [List.getElem?_eq_getElem hj, e] at h9
    cases h9; rfl
  have HBX : Hid _ := hbX
  have HAX : Hid (RdPA X (some ⟨b, o, none⟩) P A C) := hA.below hbX
  have HUS : Hid _ := hus
  have HUL : Hid (us.length = n) := hul
  have HN : Hid (n = P.length) := hn
  clear hbX hA hus hul hn hx
  go_enter Try.func55, Try.ntmps55
  go_wp2_with (at_builtin; rw [← hX]; refine wpList_append_lies _ rfl _ _ tPs rfl w.heap.size tPg i0 _ 1 24 Try.underlying71 hi hz0 hz1 hz2 rfl (by decide) _ 0 [] rfl HOX.out ⟨b, o, none⟩ n cap us rfl (by rw [HUL.out, Nat.mul_one]) HCX.out HU1.out h0 (by simp only [maxLen]; omega) (by omega) (by rw [hX]; simp) X.heap.size rfl ?_; intro g1 cap1 w1 hown1 hg1 hl1 _; have HO1 : Hid _ := hown1; have HG1 : Hid _ := hg1; have HL1 : Hid _ := hl1; clear hown1 hg1 hl1)
  go_ret
  have hO := HO1.out
  rw [Nat.zero_add, List.nil_append] at hO
  have hC : Chg (fun b => b = w.heap.size) X w1 := Chg.of_grown HG1.out (fun b e => by cases e; rfl)
  have hNN : ∀ b, b = w.heap.size → NoNum X b := fun b e => by subst e; exact ⟨_, tPg, _, by rw [hX]; exact heap_alloc_new w _, by decide⟩
  refine ⟨g1, cap1, rfl, fun j hj => ?_, HL1.out.elim (fun e => by cases e; exact Nat.le_refl _) (fun e => by rw [e]; exact HBX.out.size), HBX.out.grown HG1.out HBX.out.size (fun k e => by cases e; exact Nat.le_refl _)⟩
  obtain ⟨b', o', e, h1, h2, h3⟩ := HAX.out j hj
  refine ⟨g1, 0, rfl, A j, C j, ?_, h2, fun e9 => ?_, h3.kept hC hNN⟩
  · rw [Nat.zero_add, World.ownsRow.cellAt hO j (by have := HN.out; omega), HUS.out j hj]
  · obtain ⟨b9, o9, e8, -⟩ := h3 0 (hne _ (List.getElem_mem hj))
    rw [e9] at e8; cases e8
end
end Go.Proofs.Ytnhjkipaclchiaa
namespace Go.Proofs.Ytnhjkipaclchiaa
set_option linter.unusedVariables false
set_option linter.unusedSimpArgs false
open Go.RowKit Go.Shelf
variable {F : Fence} {n : Nat} {P : Program}
abbrev BlkS := Nat → Prop
/-- the blocks of Z are as they were -/
def KeepZ (Z : BlkS) (V V' : World) : Prop := ∀ k, Z k → V'.heap[k]? = V.heap[k]?
/-- what is said of a state with protected blocks: new blocks may join them, some may be given up; blocks that are no cells may turn from B on -/
structure Gro {β : Type} (B : Nat) (J : β → BlkS → World → Prop) : Prop where
  grow : ∀ s Z V V' row, J s Z V → V.grownBy V' row → (∀ r, row = some r → B ≤ r ∧ ∃ o : Obj, V.heap[r]? = some o ∧ o.isCells = false) → J s (fun k => Z k ∨ (V.heap.size ≤ k ∧ k < V'.heap.size)) V'
  less : ∀ s Z Z' V, J s Z V → (∀ k, Z' k → Z k) → J s Z' V
theorem Gro.turn {β : Type} {B : Nat} {J : β → BlkS → World → Prop} (h : Gro B J) {s : β} {Z : BlkS} {V : World} {l : Nat} {o : Obj} (o' : Obj) (hs : J s Z V) (hB : B ≤ l) (hl : V.heap[l]? = some o) (ho : o.isCells = false) : J s Z (V.putObj l o') :=
  h.less _ _ _ _ (h.grow s Z V _ (some l) hs (grownBy_putObj' V l o') (fun r e => by cases e; exact ⟨hB, o, hl, ho⟩)) (fun k hk => .inl hk)
theorem Gro.new {β : Type} {B : Nat} {J : β → BlkS → World → Prop} (h : Gro B J) {s : β} {Z : BlkS} {V : World} (o : Obj) (hs : J s Z V) : J s Z (V.alloc o) :=
  h.less _ _ _ _ (h.grow s Z V _ none hs (World.grownBy_alloc V o none) (fun r e => by cases e)) (fun k hk => .inl hk)
/-- what lies from B on is no cells -/
def NonC (B : Nat) (W : World) : Prop := ∀ k, B ≤ k → k < W.heap.size → ∃ o : Obj, W.heap[k]? = some o ∧ o.isCells = false
/-- an iterator's contract, with protected blocks -/
def SeqG {α : Type} (F : Fence) (n : Nat) (P : Program) (g : Nat) (lb : Array Value) (encs : α → Array Value) (Z0 : BlkS) (S Sp : List α → Prop) (N : Nat) (w : World) : Prop :=
  ∀ (l : Nat) (J Jx : List α → BlkS → World → Prop) (W : World), Below w.heap.size w W → NonC w.heap.size W → Gro W.heap.size J → Gro W.heap.size Jx →
    (∀ pre Z x V, J pre Z V → pre.length < N → YieldAt F (n - 1) P l (encs x) V fun e V' => KeepsFrom W.heap.size V V' ∧ KeepZ Z V V' ∧ ((e = .returned (.bool true) ∧ J (pre ++ [x]) Z V') ∨ (e = .returned (.bool false) ∧ Jx (pre ++ [x]) Z V'))) →
    J [] Z0 W → CallsIn F n P g (#[.func (.yield l) #[] #[]] ++ lb) W fun e V' => (∃ v, e = .returned v) ∧ ((∃ xs Z, S xs ∧ J xs Z V') ∨ (∃ pre Z, Sp pre ∧ Jx pre Z V'))
/-- how a round's body may be left -/
def postZ {α : Type} (B : Nat) (Z : BlkS) (I : List α → BlkS → World → Prop) (Ix : Code → List α → BlkS → World → Prop) (xs : List α) (W : World) : Exit → Act → World → Prop
  | .normal, _, W' => KeepsFrom B W W' ∧ KeepZ Z W W' ∧ I xs Z W'
  | .ret, _, W' => KeepsFrom B W W' ∧ KeepZ Z W W' ∧ Ix .ret xs Z W'
  | .exit id, _, W' => KeepsFrom B W W' ∧ KeepZ Z W W' ∧ Ix (.exit id) xs Z W'
  | .goto t, _, W' => KeepsFrom B W W' ∧ KeepZ Z W W' ∧ Ix (.goto t) xs Z W'
  | .panic _, _, _ => False
  | .outgrown, _, _ => False
theorem KeepZ.trans {Z : BlkS} {A B C : World} (h : KeepZ Z A B) (k : KeepZ Z B C) : KeepZ Z A C := fun i hi => (k i hi).trans (h i hi)
theorem keepZ_put {Z : BlkS} {l : Nat} (V : World) (o : Obj) (h : ¬ Z l) : KeepZ Z V (V.putObj l o) := fun k hk => World.putObj_heap_other (fun e => h (e ▸ hk))
set_option maxHeartbeats 2000000 in
theorem wpIn_rangeFunc_G {α : Type} {g : Operand} {ps : Array Tmp} {assign body : Code} {Q : Exit → Act → World → Prop} {a : Act} {w : World}
    (hro : F.round = none) (h1 : 1 ≤ n) {gf : Nat} {lb : Array Value} (hg : a.eval g = .func (.func gf) #[] lb) (hFg : F.fn gf) (eg : ∀ args w, (callFunc gf args).run P w = .ok (.enter gf args) w)
    {encs : α → Array Value} {Z0 : BlkS} {S Sp : List α → Prop} {N : Nat} (hseq : SeqG F (n - 1) P gf lb encs Z0 S Sp N w) (hZ0 : ∀ k, Z0 k → k < w.heap.size) (hps : ∀ x, (encs x).size = ps.size)
    (I : List α → BlkS → World → Prop) (Ix : Code → List α → BlkS → World → Prop) (hI : Gro w.heap.size I) (hIx : ∀ c, Gro w.heap.size (Ix c)) (h0 : I [] Z0 w) (Ax : α → Act → World → Prop) (hAx : ∀ x a', OwnFrom w.heap.size (fun (_ : Unit) W => Ax x a' W))
    (hassign : ∀ (l : Nat) (pre : List α) (Z : BlkS) (x : α) (W : World) (K : Act → World → Prop), I pre Z W → (∀ a' W', KeepsFrom w.heap.size W W' → KeepZ Z W W' → I pre Z W' → Ax x a' W' → K a' W') →
      assign.wpIn (F.inRound l) (n - 1 - 1) P (Exit.then K (fun _ _ _ => False)) { tmps := (ps.zip (encs x)).foldl (fun t (p, v) => t.setIfInBounds p v) a.tmps, defers := [] } W)
    (hbody : ∀ (l : Nat) (pre : List α) (Z : BlkS) (x : α) (a' : Act) (W : World), w.heap.size ≤ l → (∃ r, W.heap[l]? = some (.loop r)) → I pre Z W → Ax x a' W → pre.length < N → body.wpIn (F.inRound l) (n - 1 - 1) P (postZ w.heap.size Z I Ix (pre ++ [x]) W) a' W)
    (hdone : ∀ (D : Nat) (xs : List α) (Z : BlkS) (W : World), w.heap.size ≤ D → S xs → I xs Z W → W.heap[D]? = some (.deferred (some [])) → Q .normal { a with defers := { target := .collected D, args := #[] } :: a.defers } W)
    (hstop : ∀ (D : Nat) (c : Code) (pre : List α) (Z : BlkS) (W : World), w.heap.size ≤ D → Sp pre → Ix c pre Z W → W.heap[D]? = some (.deferred (some [])) → c.wpIn F n P Q { a with defers := { target := .collected D, args := #[] } :: a.defers } W) :
    (Code.rangeFunc g ps assign body).wpIn F n P Q a w := by
  refine wpIn_rangeFunc fun fn hfn => ?_
  rw [hro]
  obtain ⟨W1, hW1⟩ : ∃ W1, W1 = (w.alloc (.deferred (some []))).alloc (.loop (recAt fn a ps assign body w.heap.size .ready none)) := ⟨_, rfl⟩
  have hsz : W1.heap.size = w.heap.size + 2 := by rw [hW1]; simp
  have hT : Two fn a ps assign body w.heap.size .ready none W1 := by rw [hW1]; exact ⟨(two_new w _ _).2, (two_new w _ _).1⟩
  have hB1 : Below w.heap.size w W1 := by rw [hW1]; exact al (al (Below.refl _ _) _) _
  have hI1 : I [] Z0 W1 := by rw [hW1]; exact hI.new _ (hI.new _ h0)
  refine ⟨w.heap.size + 1, [{ target := .collected w.heap.size, args := #[] }], W1, { target := .fn (.func gf) lb, args := #[.func (.yield (w.heap.size + 1)) #[] #[]] }, W1, gf, #[.func (.yield (w.heap.size + 1)) #[] #[]] ++ lb, W1, ?_, ?_, ?_, ?_, fun _ => h1, ?_⟩
  · rw [hW1]; exact run_enterLoop_outer _ _ _ _ _
  · simp only [resolve, hg]; simp [go_sem]
  · intro f hf; simp [Target.leads] at hf; subst hf; exact hFg
  · simp [invoke, go_sem, eg]
  have gro : ∀ {J : List α → BlkS → World → Prop} {st : LoopState} {pe : Option Code}, Gro w.heap.size J → Gro W1.heap.size (fun s Z V => J s Z V ∧ Two fn a ps assign body w.heap.size st pe V ∧ ¬ Z (w.heap.size + 1)) := fun hJ => ⟨fun s Z V V' row hs hg' hr => ⟨hJ.grow s Z V V' row hs.1 hg' (fun r e => ⟨by have := (hr r e).1; omega, (hr r e).2⟩), hs.2.1.far (B := W1.heap.size) (by omega) hg' (fun r e => (hr r e).1), fun hz => by
      rcases hz with hz | ⟨hz, -⟩
      · exact hs.2.2 hz
      · have := hs.2.1.lt; omega⟩, fun s Z Z' V hs hz => ⟨hJ.less s Z Z' V hs.1 hz, hs.2.1, fun h9 => hs.2.2 (hz _ h9)⟩⟩
  refine (hseq (w.heap.size + 1) (fun pre Z V => I pre Z V ∧ Two fn a ps assign body w.heap.size .ready none V ∧ ¬ Z (w.heap.size + 1)) (fun pre Z V => ∃ c, Ix c pre Z V ∧ Two fn a ps assign body w.heap.size .done (some c) V ∧ ¬ Z (w.heap.size + 1)) W1 hB1 (fun k h2 h3 => by
      have : k = w.heap.size ∨ k = w.heap.size + 1 := by omega
      rcases this with rfl | rfl
      · exact ⟨_, hT.2, rfl⟩
      · exact ⟨_, hT.1, rfl⟩)
    (gro hI) ⟨fun s Z V V' row ⟨c, hc⟩ hg' hr => ⟨c, (gro (hIx c)).grow s Z V V' row hc hg' hr⟩, fun s Z Z' V ⟨c, hc⟩ hz => ⟨c, (gro (hIx c)).less s Z Z' V hc hz⟩⟩ ?round ⟨hI1, hT, fun h9 => by have := hZ0 _ h9; omega⟩).mono ?_
  case round =>
    rintro pre Z x V ⟨hi, ht, hzn⟩ hlen
    refine ⟨fn, _, assign, body, run_yield (P := P) (args := encs x) ht.1 (hps x), roundIn_of_wpIn hfn (hassign _ pre Z x V _ hi ?_)⟩
    intro a' Va hka hza hia hxa
    have hta := ht.keep hka
    refine ⟨_, run_beginRound hta.1 rfl, ?_⟩
    have htb := hta.turn .busy none
    refine wpIn_mono (hbody _ pre Z x a' _ (Nat.le_succ _) ⟨_, htb.1⟩ (hI.turn _ hia (Nat.le_succ _) hta.1 rfl) ((hAx x a').putObj (s := ()) _ hxa (Nat.le_succ _) hta.1 rfl) hlen) ?_
    have kr : ∀ V3, KeepsFrom w.heap.size (Va.putObj (w.heap.size + 1) (.loop (recAt fn a ps assign body w.heap.size .busy none))) V3 → KeepZ Z (Va.putObj (w.heap.size + 1) (.loop (recAt fn a ps assign body w.heap.size .busy none))) V3 → ∀ o, KeepsFrom W1.heap.size V (V3.putObj (w.heap.size + 1) o) ∧ KeepZ Z V (V3.putObj (w.heap.size + 1) o) := fun V3 k3 z3 o => by
      have hle : w.heap.size ≤ W1.heap.size := by omega
      exact ⟨(((keeps_up hka hle).trans (keeps_put Va _ (by omega))).trans (keeps_up k3 hle)).trans (keeps_put V3 o (by omega)), ((hza.trans (keepZ_put Va _ hzn)).trans z3).trans (keepZ_put V3 o hzn)⟩
    have leave : ∀ c V3, KeepsFrom w.heap.size (Va.putObj (w.heap.size + 1) (.loop (recAt fn a ps assign body w.heap.size .busy none))) V3 → KeepZ Z (Va.putObj (w.heap.size + 1) (.loop (recAt fn a ps assign body w.heap.size .busy none))) V3 → Ix c (pre ++ [x]) Z V3 → ∃ v V4, (Instr.endRound (w.heap.size + 1) (some c)).run P V3 = .ok v V4 ∧ (KeepsFrom W1.heap.size V V4 ∧ KeepZ Z V V4 ∧ ((Ending.returned v = .returned (.bool true) ∧ (I (pre ++ [x]) Z V4 ∧ Two fn a ps assign body w.heap.size .ready none V4 ∧ ¬ Z (w.heap.size + 1))) ∨ (Ending.returned v = .returned (.bool false) ∧ ∃ c, Ix c (pre ++ [x]) Z V4 ∧ Two fn a ps assign body w.heap.size .done (some c) V4 ∧ ¬ Z (w.heap.size + 1)))) := fun c V3 k3 z3 hx3 => by
      have ht3 := htb.keep k3
      exact ⟨_, _, run_endRound (P := P) (some c) ht3.1, (kr V3 k3 z3 _).1, (kr V3 k3 z3 _).2, .inr ⟨rfl, c, (hIx c).turn _ hx3 (Nat.le_succ _) ht3.1 rfl, ht3.turn .done (some c), hzn⟩⟩
    intro e a3 V3 hp
    cases e with
    | normal =>
      obtain ⟨k3, z3, i3⟩ := hp
      have ht3 := htb.keep k3
      exact ⟨_, _, run_endRound (P := P) none ht3.1, (kr V3 k3 z3 _).1, (kr V3 k3 z3 _).2, .inl ⟨rfl, hI.turn _ i3 (Nat.le_succ _) ht3.1 rfl, ht3.turn .ready none, hzn⟩⟩
    | ret => exact leave _ V3 hp.1 hp.2.1 hp.2.2
    | exit id => exact leave _ V3 hp.1 hp.2.1 hp.2.2
    | goto t => exact leave _ V3 hp.1 hp.2.1 hp.2.2
    | panic ch => exact hp.elim
    | outgrown => exact hp.elim
  rintro e V2 ⟨⟨v, rfl⟩, (⟨xs, Z, hS, hi, ht, -⟩ | ⟨pre, Z, hSp, c, hi, ht, -⟩)⟩
  · exact ⟨none, _, run_endLoop (P := P) ht.1 (by simp), hdone _ xs Z _ (Nat.le_refl _) hS (hI.turn _ hi (Nat.le_succ _) ht.1 rfl) ((World.putObj_heap_other (by omega)).trans ht.2)⟩
  · exact ⟨some c, _, run_endLoop (P := P) ht.1 (by simp), hstop _ c pre Z _ (Nat.le_refl _) hSp ((hIx c).turn _ hi (Nat.le_succ _) ht.1 rfl) ((World.putObj_heap_other (by omega)).trans ht.2)⟩
end Go.Proofs.Ytnhjkipaclchiaa
namespace Go.Proofs.Ytnhjkipaclchiaa
set_option linter.unusedVariables false
set_option linter.unusedSimpArgs false
open Go.RowKit Go.Shelf
attribute [local go_sem] Oper.semAt_some
abbrev encU (x : Ent) : Array Value := #[sv x.st, x.v]
/-- the blocks of entries -/
def EntB (w : World) : BlkS := fun k => k < w.heap.size ∧ ∃ cur fr, w.heap[k]? = some (.cells cur tEn fr)
theorem KeepZ.rdE {Z : BlkS} {V V' : World} {a : Option Addr} {xs : List Ent} (h : RdE V a xs) (hk : KeepZ Z V V') (hz : ∀ b o, a = some ⟨b, o, none⟩ → 0 < xs.length → Z b) : RdE V' a xs := fun j hj => by
  obtain ⟨b, o, h1, h2, cur, fr, h3⟩ := h j hj
  have h9 := hk b (hz b o h1 (by omega))
  exact ⟨b, o, h1, fun q v hv => cell_heap (h2 q v hv) h9, cur, fr, h9.trans h3⟩
theorem RdPA.keepZ {Z : BlkS} {V V' : World} {g3 : Nat} {P : List (List Ent)} {A : Nat → Option Addr} {C : Nat → Nat} (h : RdPA V (some ⟨g3, 0, none⟩) P A C) (hk : KeepZ Z V V') (hg : Z g3) (he : ∀ k cur fr, V.heap[k]? = some (.cells cur tEn fr) → Z k) : RdPA V' (some ⟨g3, 0, none⟩) P A C := fun j hj => by
  obtain ⟨b, o, h1, h2, h3, h4⟩ := h j hj
  cases h1
  exact ⟨g3, 0, rfl, cell_heap h2 (hk g3 hg), h3, hk.rdE h4 (fun b o e hp => by obtain ⟨b', o', e', -, cur, fr, h9⟩ := h4 0 hp; rw [e] at e'; cases e'; exact he b cur fr h9)⟩
section
set_option maxHeartbeats 6400000
set_option maxRecDepth 100000
/-- Up's closure: all entries from s on, of an index that has pages -/
theorem up_stops (n : Nat) (hn3 : 4 ≤ n) (gx gs : Nat) (g b o np cap : Nat) (P : List (List Ent)) (s1 s2 : Nat) (w : World)
    (hx : w.cell? ⟨gx, 0, none⟩ = some (.pointer (some ⟨g, 0, none⟩))) (hs : w.rangeAt gs 0 (sc (s1, s2))) (hpg : PgV w (.pointer (some ⟨g, 0, none⟩)) (some ⟨b, o, none⟩) np cap) (hn : np = P.length) (h0 : 0 < np) (hcap : np ≤ cap) (hrd : RdP w (some ⟨b, o, none⟩) P) (hsp : SP P) (hl : np ≤ 4398046511104) (hlp : ∀ p ∈ P, p.length ≤ 100)
    (p i : Nat) (ok : Bool) (hpl : PlaceIs P (s1, s2) p i ok) :
    SeqG Fence.wide n Try.prog 52 #[.pointer (some ⟨gx, 0, none⟩), .pointer (some ⟨gs, 0, none⟩)] encU (EntB w) (fun xs => xs = (P.drop p).flatten.drop i) (fun pre => pre <+: (P.drop p).flatten.drop i) ((P.drop p).flatten.drop i).length w := by
  intro l J Jx W hwW hnc hJ hJx hY hJ0
  have h1 : 1 ≤ n := by omega
  refine callsIn_of_wp_marks Try.func52 rfl trivial ?_ rfl
  simp only [Try.ntmps52, List.size_toArray, List.length_cons, List.length_nil, Nat.reduceAdd, Nat.reduceSub, Array.replicate_succ, Array.replicate_zero, List.push_toArray, List.append_toArray, List.nil_append, List.cons_append]
  obtain ⟨W1, hW1⟩ : ∃ X : World, X = W.alloc (.cells #[.func (.yield l) #[] #[]] 38) := ⟨_, rfl⟩
  have hb1 : Below W.heap.size W W1 := by rw [hW1]; exact al (Below.refl _ _) _
  have hxW : W.cell? ⟨gx, 0, none⟩ = some (.pointer (some ⟨g, 0, none⟩)) := (hwW.cell (World.block_lt_of_cell? w _ hx)).trans hx
  have hsW := rangeAt_below hs hwW
  have hq0 := hsW 0 _ rfl
  have hq1 := hsW 1 _ rfl
  have hgl : gx < W.heap.size := World.block_lt_of_cell? W _ hxW
  have hgl2 : gs < W.heap.size := World.block_lt_of_cell? W _ hq0
  have hwW1 : Below w.heap.size w W1 := below_next hwW hb1
  have HFR : Hid _ := from_t (.pointer (some ⟨g, 0, none⟩)) b o np cap P s1 s2 W1 (hpg.below hwW1) hn hcap h0 (hrd.below hwW1) hsp hl hlp
  have HYB : Hid (W1.heap[W.heap.size]? = some (.cells #[.func (.yield l) #[] #[]] 38 (0, 0))) := (show W1.heap[W.heap.size]? = some (.cells #[.func (.yield l) #[] #[]] 38 (0, 0)) by rw [hW1]; exact heap_alloc_new W _)
  have HB1 : Hid (Below W.heap.size W W1) := hb1
  have HWW : Hid (Below w.heap.size w W) := hwW
  have HNC : Hid _ := hnc
  have HY : Hid _ := hY
  clear hsW hwW1 hb1 hnc hY hpg hs hx
  gi_wp2
  refine ⟨trivial, ?_⟩
  rw [← hW1]
  refine (callsIn_wide.2 HFR.out).mono ?_
  rintro e W2 ⟨p', i', ok', rfl, hpl', hpn, hb2⟩
  obtain ⟨e1, e2, e3⟩ := hpl'.uniq hpl
  subst e1 e2 e3
  obtain ⟨m, hm⟩ : ∃ m, m = np - p' := ⟨_, rfl⟩
  obtain ⟨cp, hcp⟩ : ∃ cp, cp = cap - p' := ⟨_, rfl⟩
  rw [← hm, ← hcp]
  have HB2 : Hid (Below W.heap.size W W2) := below_next HB1.out hb2
  have hne : ∀ q ∈ P.drop p', 0 < q.length := fun q hq => hsp.1 q (List.mem_of_mem_drop hq)
  have hml : m = (P.drop p').length := by rw [List.length_drop, hm, hn]
  have HYB2 : Hid (W2.heap[W.heap.size]? = some (.cells #[.func (.yield l) #[] #[]] 38 (0, 0))) := (hb2.block _ (Array.getElem?_eq_some_iff.1 HYB.out).1).trans HYB.out
  have HCL : Hid _ := cloneP_t b (o + p') m cp (P.drop p') W2 hml (by omega) (((hrd.below HWW.out).below HB2.out).drop p') (by omega) hne
  have HN : Hid (np = P.length) := hn
  have HML : Hid (m = (P.drop p').length) := hml
  have HMB : Hid (m ≤ 4398046511104 ∧ 0 < m) := ⟨by omega, by omega⟩
  clear hm hcp hml hn hb2 hW1
  gi_wp2
  refine ⟨trivial, ?_⟩
  refine (callsIn_wide.2 HCL.out).mono ?_
  rintro e W3 ⟨g3, c3, rfl, hrd3, hg3, hb3⟩
  have HB3 : Hid (Below W.heap.size W W3) := below_next HB2.out hb3
  have HYB3 : Hid (W3.heap[W.heap.size]? = some (.cells #[.func (.yield l) #[] #[]] 38 (0, 0))) := (hb3.block _ (Array.getElem?_eq_some_iff.1 HYB2.out).1).trans HYB2.out
  have HG3 : Hid (W.heap.size ≤ g3) := Nat.le_trans HB2.out.size hg3
  have HRD3 : Hid (RdP W3 (some ⟨g3, 0, none⟩) (P.drop p')) := hrd3
  have HRI : Hid _ := rising_t (some ⟨g3, 0, none⟩) m c3 i' W3
  clear hrd3 hg3 hb3
  gi_wp2
  refine ⟨trivial, ?_⟩
  refine (callsIn_wide.2 HRI.out).mono ?_
  rintro e W4 ⟨rfl, hW4⟩
  have hb4 : Below W3.heap.size W3 W4 := by rw [hW4]; exact al (al (Below.refl _ _) _) _
  have hz4 : W4.heap.size = W3.heap.size + 2 := by rw [hW4]; simp
  have hz2 := two_new W3 (.cells #[.slice (some ⟨g3, 0, none⟩) m c3] tPs) (.cells #[.int .i64 (i' : Int)] 3)
  rw [← hW4] at hz2
  have hB4 : Below W.heap.size W W4 := below_next HB3.out hb4
  obtain ⟨A, C, hA⟩ := (HRD3.out.below hb4).fix
  have hY4 : W4.heap[W.heap.size]? = some (.cells #[.func (.yield l) #[] #[]] 38 (0, 0)) := (hb4.block _ (Array.getElem?_eq_some_iff.1 HYB3.out).1).trans HYB3.out
  obtain ⟨Z, hZ⟩ : ∃ Z : BlkS, Z = fun k => EntB w k ∨ (W.heap.size ≤ k ∧ k < W4.heap.size) := ⟨_, rfl⟩
  have hJ4 : J [] Z W4 := by rw [hZ]; exact hJ.grow [] (EntB w) W W4 none hJ0 ⟨hB4.os, hB4.tape, hB4.output, hB4.size, fun k hk _ => hB4.block k hk⟩ (fun r e => by cases e)
  have hZlt : ∀ k, Z k → k < W4.heap.size := fun k hk => by
    rw [hZ] at hk
    rcases hk with ⟨h9, -⟩ | ⟨-, h9⟩
    · have := HWW.out.size; have := hB4.size; omega
    · exact h9
  have hZe : ∀ k cur fr, W4.heap[k]? = some (.cells cur tEn fr) → Z k := fun k cur fr hk => by
    have hlt := (Array.getElem?_eq_some_iff.1 hk).1
    rw [hZ]
    by_cases h9 : W.heap.size ≤ k
    · exact .inr ⟨h9, hlt⟩
    · have hkW : W.heap[k]? = some (.cells cur tEn fr) := (hB4.block k (by omega)).symm.trans hk
      by_cases h8 : w.heap.size ≤ k
      · obtain ⟨o9, h7, h6⟩ := HNC.out k h8 (by omega)
        rw [hkW] at h7; cases h7; cases h6
      · exact .inl ⟨by omega, cur, fr, (HWW.out.block k (by omega)).symm.trans hkW⟩
  have hZg : Z g3 := by
    obtain ⟨b9, o9, e9, h9, -⟩ := hA 0 (by have := HML.out; have := HMB.out; omega)
    cases e9
    rw [hZ]; exact .inr ⟨HG3.out, World.block_lt_of_cell? W4 _ h9⟩
  have hWs : W.heap.size ≤ W3.heap.size := HB3.out.size
  have hZ1 : Z W3.heap.size := by rw [hZ]; exact .inr ⟨hWs, by omega⟩
  have hZ2 : Z (W3.heap.size + 1) := by rw [hZ]; exact .inr ⟨by omega, by omega⟩
  have hZy : Z W.heap.size := by rw [hZ]; exact .inr ⟨Nat.le_refl _, (Array.getElem?_eq_some_iff.1 hY4).1⟩
  have hiP : i' ≤ ((P.drop p').getD 0 []).length := by
    rcases hpl with ⟨h9, -⟩ | ⟨r, -, -, h3, h4, -⟩
    · have := HN.out; rw [h9] at this; simp at this; omega
    · have e9 : (P.drop p').getD 0 [] = P.getD p' [] := by simp [List.getD, List.getElem?_drop]
      rw [e9]; exact h4.1
  have HSQ : Hid (SeqStopsK Fence.wide (n - 1) Try.prog 66 #[.pointer (some ⟨W3.heap.size, 0, none⟩), .pointer (some ⟨W3.heap.size + 1, 0, none⟩)] (fun x : Ent => #[ea x]) (fun V V' => V.heap.size ≤ V'.heap.size ∧ KeepZ Z V V') (fun ys => ys = (P.drop p').flatten.drop i') (fun pre => pre <+: (P.drop p').flatten.drop i') ((P.drop p').flatten.drop i').length W4) := fun l' J' Jx' U hU hJ' hJx' hY' hJ0' =>
    rising_in Fence.wide (n - 1) trivial rfl (by omega) l' W3.heap.size (W3.heap.size + 1) (fun V V' => V.heap.size ≤ V'.heap.size ∧ KeepZ Z V V') (fun V => ⟨Nat.le_refl _, fun _ _ => rfl⟩) (fun h k => ⟨Nat.le_trans h.1 k.1, h.2.trans k.2⟩) (fun h => h.1) (P.drop p') i' (some ⟨g3, 0, none⟩) m c3 HML.out HMB.out.1 (fun q hq => hlp q (List.mem_of_mem_drop hq)) hiP J' Jx' hY' U (fun V o hV => ⟨by simp, fun k hk => Below.heap_alloc V o k (by have := hZlt k hk; have := hU.size; omega)⟩) hJ' A C hne (fun u hu => by
      have hku : KeepZ Z W4 u := fun k hk => (hu.2 k hk).trans (hU.block k (hZlt k hk))
      refine ⟨hA.keepZ hku hZg hZe, ?_, ?_⟩
      · exact cell_heap (by rw [cell_of_row _ _ _ _ _ _ hz2.1]; rfl) (hku _ hZ1)
      · exact cell_heap (by rw [cell_of_row _ _ _ _ _ _ hz2.2]; rfl) (hku _ hZ2)) hJ0'
  have hW4s : W.heap.size ≤ W4.heap.size := hB4.size
  clear hW4 hz2 hA hiP
  gi_wp2
  refine wpIn_rangeFunc_ownH rfl h1 (gf := 66) (lb := #[.pointer (some ⟨W3.heap.size, 0, none⟩), .pointer (some ⟨W3.heap.size + 1, 0, none⟩)]) rfl trivial (enters_of Try.func66 (by kernel_rfl) rfl)
    HSQ.out (fun h k => ⟨Nat.le_trans h.1 k.1, h.2.trans k.2⟩) (fun V l o o' hl _ _ _ => ⟨by simp, keepZ_put V o' (fun hz => by have := hZlt l hz; omega)⟩) (Below.refl _ _) (fun _ => rfl)
    (fun pre V => J pre Z V ∧ V.heap[W.heap.size]? = some (.cells #[.func (.yield l) #[] #[]] 38 (0, 0)) ∧ W4.heap.size ≤ V.heap.size)
    (fun c pre V => c = .ret ∧ Jx pre Z V)
    (fun s A B row hs hg hr => ⟨hJ.less _ _ _ _ (hJ.grow s Z A B row hs.1 hg (fun r e => ⟨by have := (hr r e).1; omega, (hr r e).2⟩)) (fun k hk => .inl hk), heap_kept hs.2.1 hg (fun r e => (hr r e).2), Nat.le_trans hs.2.2 hg.size⟩)
    (fun c s A B row hs hg hr => ⟨hs.1, hJx.less _ _ _ _ (hJx.grow s Z A B row hs.2 hg (fun r e => ⟨by have := (hr r e).1; omega, (hr r e).2⟩)) (fun k hk => .inl hk)⟩)
    ⟨hJ4, hY4, Nat.le_refl _⟩
    (fun x a' V => ∃ Bx, V.heap[Bx]? = some (.cells #[.int .u64 (x.st.1 : Int), .int .u64 (x.st.2 : Int), x.v] tEn (0, 0)) ∧ a' = { tmps := #[.func (.yield l) #[] #[], .pointer (some ⟨gx, 0, none⟩), .pointer (some ⟨gs, 0, none⟩), .pointer (some ⟨W.heap.size, 0, none⟩), .slice (some ⟨b, o + p', none⟩) m cp, .int .i64 (i' : Int), .pointer (some ⟨Bx, 0, none⟩), .tuple #[.slice (some ⟨b, o + p', none⟩) m cp, .int .i64 (i' : Int)], .pointer (some ⟨g, 0, none⟩), .agg #[.int .u64 (s1 : Int), .int .u64 (s2 : Int)], .tuple #[.slice (some ⟨b, o + p', none⟩) m cp, .int .i64 (i' : Int)], .slice (some ⟨b, o + p', none⟩) m cp, .int .i64 (i' : Int), .slice (some ⟨b, o + p', none⟩) m cp, .slice (some ⟨g3, 0, none⟩) m c3, .int .i64 (i' : Int), .func (.func 66) #[] #[.pointer (some ⟨W3.heap.size, 0, none⟩), .pointer (some ⟨W3.heap.size + 1, 0, none⟩)], ea x, undef, undef, undef, undef, undef, undef, undef], defers := [] })
    (fun x a' s A B row hs hg hr => by obtain ⟨Bx, h2, h3⟩ := hs; exact ⟨Bx, heap_kept h2 hg (fun r e => (hr r e).2), h3⟩)
    ?assign ?body ?done ?stop
  case assign =>
    rintro l' pre ⟨⟨x1, x2⟩, xn⟩ V K ⟨hj, hyb, hvs⟩ hK
    gi_wp2
    exact hK _ _ ((KeepsOthers.alloc _ _).from _) ⟨by simp, fun k hk => Below.heap_alloc V _ k (by have := hZlt k hk; omega)⟩ ⟨hJ.new _ hj, (Below.heap_alloc V _ _ (Array.getElem?_eq_some_iff.1 hyb).1).trans hyb, by simp; omega⟩ ⟨V.heap.size, heap_alloc_new V _, rfl⟩
  case body =>
    rintro l' pre ⟨⟨x1, x2⟩, xn⟩ a' V hl hlr ⟨hj, hyb, hvs⟩ ⟨Bx, hX, rfl⟩ hlt
    have hx0 : V.cell? ⟨Bx, 0, none⟩ = some (.int .u64 (x1 : Int)) := by rw [cell_of_row _ _ _ _ _ _ hX]; rfl
    have hx1 : V.cell? ⟨Bx, 1, none⟩ = some (.int .u64 (x2 : Int)) := by rw [cell_of_row _ _ _ _ _ _ hX]; rfl
    have hx2 : V.cell? ⟨Bx, 2, none⟩ = some (.int .u64 (xn : Int)) := by rw [cell_of_row _ _ _ _ _ _ hX]; rfl
    have hcy : V.cell? ⟨W.heap.size, 0, none⟩ = some (.func (.yield l) #[] #[]) := by rw [cell_of_row _ _ _ _ _ _ hyb]; rfl
    obtain ⟨fn, tmps, assign, body, hy, hRd⟩ := yield_any (m' := n - 1 - 1 - 1) (HY.out pre Z (⟨(x1, x2), xn⟩ : Ent) V hj hlt)
    dsimp only [encU, Ent.v] at hy
    gi_wp2
    refine ⟨fun h => (by cases h), ?_⟩
    refine RoundIn.mono hRd ?_
    rintro e V3 ⟨k3, z3, (⟨rfl, hJ3⟩ | ⟨rfl, hJx3⟩)⟩
    · gi_wp2
      exact ⟨keeps_up k3 hW4s, ⟨k3.size, z3⟩, hJ3, (z3 _ hZy).trans hyb, Nat.le_trans hvs k3.size⟩
    · gi_wp2
      exact ⟨keeps_up k3 hW4s, rfl, hJx3⟩
  case done =>
    rintro D ys V hD rfl ⟨hj, -, -⟩ hK
    gi_wp2
    refine ⟨by simp, .inl ⟨_, _, rfl, run_takeDeferred hK, ?_⟩⟩
    exact ⟨_, results_none rfl _ _ _, ⟨_, rfl⟩, .inl ⟨_, Z, rfl, hJ.turn _ hj (by omega) hK rfl⟩⟩
  case stop =>
    rintro D c pre V hD hpre ⟨rfl, hjx⟩ hK
    gi_wp2
    refine ⟨by simp, .inl ⟨_, _, rfl, run_takeDeferred hK, ?_⟩⟩
    exact ⟨_, results_none rfl _ _ _, ⟨_, rfl⟩, .inr ⟨_, Z, hpre, hJx.turn _ hjx (by omega) hK rfl⟩⟩
end
end Go.Proofs.Ytnhjkipaclchiaa
