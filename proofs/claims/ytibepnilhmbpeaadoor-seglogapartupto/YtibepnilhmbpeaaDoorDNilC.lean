import Derived.Test.YtibepnilhmbpeaaDoorDBeg
import Derived.Test.YtibepnilhmbpeaaDoorDImM
import Derived.Maps.OwnSet
import Derived.Deep.AppendLies
import Derived.Maps.RangeWalk
import Derived.MapFrom
namespace Go.Proofs.YtibepnilhmbpeaaDoor
set_option linter.unusedVariables false
set_option linter.unusedSimpArgs false
open Go.RowKit Go.Maps
/-- nothing changed but the blocks that F names -/
structure Chg (F : Nat → Prop) (w w' : World) : Prop where
  os : w'.os = w.os
  tape : w'.tape = w.tape
  output : w'.output = w.output
  size : w.heap.size ≤ w'.heap.size
  block : ∀ k, k < w.heap.size → ¬ F k → w'.heap[k]? = w.heap[k]?
theorem Chg.of_grown {F : Nat → Prop} {w w' : World} {row : Option Nat} (h : w.grownBy w' row) (hF : ∀ b, row = some b → F b) : Chg F w w' :=
  ⟨h.os, h.tape, h.output, h.size, fun k hk hn => h.block k hk (fun e => hn (hF k e.symm))⟩
theorem Chg.of_below {F : Nat → Prop} {w w' : World} (h : Below w.heap.size w w') : Chg F w w' := ⟨h.os, h.tape, h.output, h.size, fun k hk _ => h.block k hk⟩
theorem Chg.refl (F : Nat → Prop) (w : World) : Chg F w w := Chg.of_below (Below.refl _ _)
/-- what changes later may be new -/
theorem Chg.trans {F G : Nat → Prop} {a b c : World} (h : Chg F a b) (k : Chg G b c) (hG : ∀ i, G i → F i ∨ a.heap.size ≤ i) : Chg F a c := by
  refine ⟨k.os.trans h.os, k.tape.trans h.tape, k.output.trans h.output, Nat.le_trans h.size k.size, fun i hi hn => ?_⟩
  refine (k.block i (Nat.lt_of_lt_of_le hi h.size) (fun hg => ?_)).trans (h.block i hi hn)
  rcases hG i hg with h1 | h1
  · exact hn h1
  · omega
theorem Chg.below {F : Nat → Prop} {w w' : World} {B : Nat} (h : Chg F w w') (hF : ∀ i, F i → B ≤ i) (hB : B ≤ w.heap.size) : Below B w w' :=
  ⟨h.os, h.tape, h.output, h.size, fun k hk => h.block k (by omega) (fun hf => by have := hF k hf; omega)⟩
theorem Chg.mono {F G : Nat → Prop} {w w' : World} (h : Chg F w w') (hG : ∀ i, F i → G i) : Chg G w w' := ⟨h.os, h.tape, h.output, h.size, fun k hk hn => h.block k hk (fun hf => hn (hG k hf))⟩
def nilS : Value := .slice none 0 0
def selfR (v : Value) : Option (DataW Value × List MemPlace) := some (.held v, [])
theorem keyI : Keyed Tryd.prog 3 := int_keyed Tryd.underlying3
theorem zeroT (w : World) : (zeroValue 118).run Tryd.prog w = .ok (.slice none 0 0) w := by kernel_rfl
def kI (i : Nat) : Lit := .int .i64 (i : Int)
theorem kI_of {i : Nat} (h : i ≤ 65536) : keyOf Tryd.prog 3 (.int .i64 (i : Int)) = some (kI i) := keyOf_int_mk Tryd.underlying3 (a := (i : Int)) (by simp [Lit.wf, IntKind.min, IntKind.max, IntKind.signed, IntKind.bits]; omega)
theorem kI_ne {i j : Nat} (h : i ≠ j) : kI i ≠ kI j := by
  intro e
  unfold kI at e
  have := (Lit.int.inj e).2
  omega
theorem kI_key {i : Nat} (h : i ≤ 65536) : WideAt.IsKeyLit (kI i) := keyI.key (kI_of h)
def flatT (vs : List (List UInt8)) : List Value := vs.flatMap bv
def upd {α : Type} (C : Nat → α) (i : Nat) (x : α) : Nat → α := fun j => if j = i then x else C j
theorem upd_same {α : Type} (C : Nat → α) (i : Nat) (x : α) : upd C i x i = x := by simp [upd]
theorem upd_other {α : Type} (C : Nat → α) {i j : Nat} (h : j ≠ i) (x : α) : upd C i x j = C j := by simp [upd, h]
/-- the cache in memory: C i: the versions of sector i, V i: their slice -/
structure CacheAt (w : World) (m N n : Nat) (C : Nat → List (List UInt8)) (V : Nat → Value) : Prop where
  own : ∃ D, w.ownsMap Tryd.prog 3 selfR m n D ∧ (∀ i, C i ≠ [] → ∀ z, D.atKey (kI i) z = .held (V i)) ∧ (∀ kl, Maps.has D kl = true → ∃ i, i < N ∧ kl = kI i ∧ C i ≠ [])
  nil : ∀ i, C i = [] → V i = nilS
  rows : ∀ i, w.ownsRow 0 87 128 (V i) (C i).length (flatT (C i))
  txt : ∀ i t, t ∈ C i → t.length = 128
  apart : ∀ i j b, (V i).ownBlock = some b → (V j).ownBlock = some b → i = j
  few : ∀ i, (C i).length ≤ n
  ins : ∀ i, C i ≠ [] → i < N
/-- the blocks of a disk -/
def foot (p g m : Nat) (V : Nat → Value) (b : Nat) : Prop := b = p ∨ b = g ∨ b = m ∨ ∃ i, (V i).ownBlock = some b
structure DK (w : World) (p g m : Nat) (S : List Sec) (C : Nat → List (List UInt8)) (V : Nat → Value) (off : Bool) (fuse : Int) (n : Nat) : Prop where
  fit : ∀ s ∈ S, s.fit
  one : 1 ≤ S.length
  most : S.length ≤ 65536
  hp : w.heap[p]? = some (.cells #[.slice (some ⟨g, 0, none⟩) S.length S.length, .map (some m), .bool off, .int .i64 fuse] 70 (0, 0))
  hg : w.heap[g]? = some (.cells (secs S).toArray 89 (0, 0))
  cache : CacheAt w m S.length n C V
  few : n ≤ 1099511627776
  fu : fuse ≤ 9223372036854775807
theorem CacheAt.map_at {w : World} {m N n : Nat} {C : Nat → List (List UInt8)} {V : Nat → Value} (h : CacheAt w m N n C V) : ∃ es cl, w.heap[m]? = some (.map es cl) := by
  obtain ⟨D, ⟨es, cl, h1, -⟩, -⟩ := h.own
  exact ⟨es, cl, h1⟩
theorem row_at {w : World} {v : Value} {n b : Nat} {xs : List Value} {e : TypeId} {s : Nat} (h : w.ownsRow 0 e s v n xs) (hb : v.ownBlock = some b) : ∃ cur, w.heap[b]? = some (.cells cur e (0, 0)) := by
  rcases h.2 with ⟨rfl, -⟩ | ⟨g, cap, cur, rfl, -, hg, -⟩
  · simp [Value.ownBlock] at hb
  · simp only [Value.ownBlock, Option.some.injEq] at hb
    subst hb
    exact ⟨cur, hg⟩
theorem CacheAt.apart_m {w : World} {m N n : Nat} {C : Nat → List (List UInt8)} {V : Nat → Value} (h : CacheAt w m N n C V) (i : Nat) : (V i).ownBlock ≠ some m := by
  intro e
  obtain ⟨cur, h1⟩ := row_at (h.rows i) e
  obtain ⟨es, cl, h2⟩ := h.map_at
  rw [h2] at h1
  cases h1
theorem CacheAt.kept {w w' : World} {m N n : Nat} {C : Nat → List (List UInt8)} {V : Nat → Value} (h : CacheAt w m N n C V) {F : Nat → Prop} (hc : Chg F w w') (hm : ¬ F m) (hV : ∀ i b, (V i).ownBlock = some b → ¬ F b) : CacheAt w' m N n C V := by
  obtain ⟨D, h1, h2, h3⟩ := h.own
  refine ⟨⟨D, ?_, h2, h3⟩, h.nil, fun i => ?_, h.txt, h.apart, h.few, h.ins⟩
  · obtain ⟨es, cl, e1, e2⟩ := h1
    exact ⟨es, cl, (hc.block m (Array.getElem?_eq_some_iff.1 e1).1 hm).trans e1, e2⟩
  · refine ⟨(h.rows i).1, ?_⟩
    rcases (h.rows i).2 with h0 | ⟨g, cap, cur, e, hB, hg, r⟩
    · exact .inl h0
    · exact .inr ⟨g, cap, cur, e, hB, (hc.block g (Array.getElem?_eq_some_iff.1 hg).1 (hV i g (by rw [e]; rfl))).trans hg, r⟩
theorem DK.kept {w w' : World} {p g m : Nat} {S : List Sec} {C : Nat → List (List UInt8)} {V : Nat → Value} {off : Bool} {fuse : Int} {n : Nat} (h : DK w p g m S C V off fuse n) {F : Nat → Prop} (hc : Chg F w w') (hF : ∀ b, foot p g m V b → ¬ F b) : DK w' p g m S C V off fuse n :=
  ⟨h.fit, h.one, h.most, (hc.block p (Array.getElem?_eq_some_iff.1 h.hp).1 (hF p (.inl rfl))).trans h.hp, (hc.block g (Array.getElem?_eq_some_iff.1 h.hg).1 (hF g (.inr (.inl rfl)))).trans h.hg,
   h.cache.kept hc (hF m (.inr (.inr (.inl rfl)))) (fun i b e => hF b (.inr (.inr (.inr ⟨i, e⟩)))), h.few, h.fu⟩
theorem DK.below {w w' : World} {p g m : Nat} {S : List Sec} {C : Nat → List (List UInt8)} {V : Nat → Value} {off : Bool} {fuse : Int} {n : Nat} (h : DK w p g m S C V off fuse n) (hb : Below w.heap.size w w') : DK w' p g m S C V off fuse n :=
  h.kept (F := fun _ => False) (Chg.of_below hb) (fun _ _ hf => hf)
theorem DK.lt {w : World} {p g m : Nat} {S : List Sec} {C : Nat → List (List UInt8)} {V : Nat → Value} {off : Bool} {fuse : Int} {n : Nat} (h : DK w p g m S C V off fuse n) {b : Nat} (hb : foot p g m V b) : b < w.heap.size := by
  rcases hb with rfl | rfl | rfl | ⟨i, e⟩
  · exact (Array.getElem?_eq_some_iff.1 h.hp).1
  · exact (Array.getElem?_eq_some_iff.1 h.hg).1
  · obtain ⟨es, cl, h1⟩ := h.cache.map_at
    exact (Array.getElem?_eq_some_iff.1 h1).1
  · obtain ⟨cur, h1⟩ := row_at (h.cache.rows i) e
    exact (Array.getElem?_eq_some_iff.1 h1).1
theorem DK.apartV {w : World} {p g m : Nat} {S : List Sec} {C : Nat → List (List UInt8)} {V : Nat → Value} {off : Bool} {fuse : Int} {n : Nat} (h : DK w p g m S C V off fuse n) (i : Nat) : (V i).ownBlock ≠ some p ∧ (V i).ownBlock ≠ some g ∧ (V i).ownBlock ≠ some m := by
  refine ⟨fun e => ?_, fun e => ?_, h.cache.apart_m i⟩
  · obtain ⟨cur, h1⟩ := row_at (h.cache.rows i) e
    rw [h.hp] at h1
    cases h1
  · obtain ⟨cur, h1⟩ := row_at (h.cache.rows i) e
    rw [h.hg] at h1
    cases h1
theorem DK.ne {w : World} {p g m : Nat} {S : List Sec} {C : Nat → List (List UInt8)} {V : Nat → Value} {off : Bool} {fuse : Int} {n : Nat} (h : DK w p g m S C V off fuse n) : p ≠ g ∧ p ≠ m ∧ g ≠ m := by
  obtain ⟨es, cl, h1⟩ := h.cache.map_at
  refine ⟨fun e => ?_, fun e => ?_, fun e => ?_⟩
  · have := h.hp; rw [e, h.hg] at this; simp only [Option.some.injEq, Obj.cells.injEq] at this; exact absurd this.2.1 (by decide)
  · have := h.hp; rw [e, h1] at this; cases this
  · have := h.hg; rw [e, h1] at this; cases this
theorem DK.secAt {w : World} {p g m : Nat} {S : List Sec} {C : Nat → List (List UInt8)} {V : Nat → Value} {off : Bool} {fuse : Int} {n : Nat} (h : DK w p g m S C V off fuse n) : SecAt w p g S :=
  ⟨fit_ok h.fit, h.one, h.most, ⟨S.length, by rw [cell_of_row _ _ 0 _ _ _ h.hp]; rfl, Nat.le_refl _, h.most⟩, fun k hk => secs_range (fit_ok h.fit) h.hg k hk⟩
/-- what a row of texts has -/
theorem texts_of {w : World} {v : Value} {vs : List (List UInt8)} (hv : ∀ t ∈ vs, t.length = 128) (h : w.ownsRow 0 87 128 v vs.length (flatT vs)) : ∃ a c, v = .slice a vs.length c ∧ Texts w a vs := by
  rcases h.2 with ⟨rfl, h0⟩ | ⟨g, cap, cur, rfl, -, hg, hn, hm, hs, ht⟩
  · obtain rfl : vs = [] := List.eq_nil_of_length_eq_zero h0
    exact ⟨none, 0, rfl, Texts.nil _ _⟩
  · refine ⟨_, cap, rfl, fun k hk => ⟨g, rfl, fun j u hj => ?_⟩⟩
    have hj2 : j < 128 := by
      have := (List.getElem?_eq_some_iff.1 hj).1
      rw [bv_length, hv _ (List.getElem_mem hk)] at this
      exact this
    have h1 := flat_at bv 128 vs (fun t ht => by rw [bv_length]; exact hv t ht) k j hk hj2
    have hm2 : (k + 1) * 128 ≤ vs.length * 128 := Nat.mul_le_mul_right _ hk
    rw [cell_of_row _ _ _ _ _ _ hg, ← Array.getElem?_toList, ← List.getElem?_take_of_lt (show k * 128 + j < vs.length * 128 by omega), ht]
    exact h1.trans hj
theorem DK.looks {w : World} {p g m : Nat} {S : List Sec} {C : Nat → List (List UInt8)} {V : Nat → Value} {off : Bool} {fuse : Int} {n : Nat} (h : DK w p g m S C V off fuse n) (i : Nat) (hi : i < S.length) : ∃ a c, V i = .slice a (C i).length c ∧ Looks w m i a c (C i) := by
  obtain ⟨a, c, hv, hx⟩ := texts_of (h.cache.txt i) (h.cache.rows i)
  refine ⟨a, c, hv, ⟨fun u hu => ?_, h.cache.txt i, Nat.le_trans (h.cache.few i) (Nat.le_trans h.few (by decide)), hx⟩⟩
  obtain ⟨D, h1, h2, h3⟩ := (h.below hu).cache.own
  have hi2 : i ≤ 65536 := by have := h.most; omega
  obtain ⟨v, ps, hrun, hR⟩ := h1.lookup keyI Tryd.underlying68 (zeroT u) (zd := .held nilS) (zp := []) rfl (kI_of hi2)
  rw [hrun]
  simp only [selfR, Option.some.injEq, Prod.mk.injEq] at hR
  have e1 := hR.1
  by_cases hc : C i = []
  · have hf : Maps.has D (kI i) = false := by
      cases hh : Maps.has D (kI i)
      · rfl
      · obtain ⟨j, -, e, hj⟩ := h3 _ hh
        by_cases hij : i = j
        · subst hij; exact absurd hc hj
        · exact absurd e (kI_ne hij)
    rw [atKey_of_not_has hf] at e1
    have e2 := h.cache.nil i hc
    rw [← hv, e2]
    cases e1
    rfl
  · rw [h2 i hc] at e1
    rw [← hv]
    cases e1
    rfl
end Go.Proofs.YtibepnilhmbpeaaDoor
namespace Go.Proofs.YtibepnilhmbpeaaDoor
set_option linter.unusedVariables false
set_option linter.unusedSimpArgs false
open Go.RowKit Go.Maps
set_option maxRecDepth 20000 in
theorem run_bs (X : List Value) (h : X.length = 128) (w : World) : (Instr.buildSlice 118 1 #[(0, .agg X.toArray)]).run Tryd.prog w = .ok (.slice (some ⟨w.heap.size, 0, none⟩) 1 1) (w.alloc (.cells X.toArray 87)) := by
  obtain ⟨hz, hs⟩ := zero_of_info info_text
  have hu := run_underlying (P := Tryd.prog) Tryd.underlying118
  have hsz : ∀ u, (sizeOf 87).run Tryd.prog u = .ok 128 u := by
    intro u
    cases hq : Tryd.prog.info? 87 with
    | none => simp [hq] at hs
    | some i => simp [hq] at hs; simp [sizeOf, typeInfo, hq, hs]
  obtain ⟨Z, hZ⟩ : ∃ Z : Array Value, Z = Array.map (fun x => z128[x % z128.size]!) (Array.range (1 * 128)) := ⟨_, rfl⟩
  have hZl : Z.size = 128 := by rw [hZ]; simp
  have hfill : Instr.fill (fun i => some (i * 128, 128)) Z [(0, .agg X.toArray)] = some X.toArray := by
    simp [Instr.fill, Value.cells, h, hZl]
    rw [fold_set X 0 Z (by rw [hZl, h]; decide), splice_all _ _ (by rw [h, Array.length_toList, hZl])]
  unfold Instr.buildSlice
  simp only [Sem.run_bind, hu, Result.andThen_ok, hsz]
  rw [if_neg (by decide), if_neg (by decide)]
  simp only [Sem.run_bind, hz, Result.andThen_ok, Value.cells, Sem.run_pure, ← hZ, hfill]
  simp [newRow]
theorem exec_lookup {P : Program} {a : Act} {oi : Oper} {t : TypeId} {x k : Operand} (ho : oi.op = .lookup t x k false) {v : Value} {w : World} (h : (Instr.lookup t (a.eval x) (a.eval k) false).run P w = .ok v w) : (execOp a.eval oi).run P w = .ok (.value v) w := by
  unfold execOp
  simp only [ho, Sem.run_bind, h, Result.andThen_ok]
  rfl
theorem wp_bs {o : Oper} {a : Act} {w : World} {K : Act → World → Prop} {Q : Exit → Act → World → Prop} (x : Operand) (ho : o.op = .buildSlice 118 1 #[(0, x)]) (X : List Value) (hx : a.eval x = .agg X.toArray) (hl : X.length = 128)
    (h : K (a.put o.dst (.slice (some ⟨w.heap.size, 0, none⟩) 1 1)) (w.alloc (.cells X.toArray 87))) : Oper.wp Tryd.prog o a w K Q := by
  unfold Oper.wp execOp
  simp only [ho, List.map_toArray, List.map_cons, List.map_nil, hx, Sem.run_bind, run_bs X hl w, Result.andThen_ok]
  exact h
theorem wp_mapUp {P : Program} {o : Oper} {a : Act} {w : World} {K : Act → World → Prop} {Q : Exit → Act → World → Prop} (t : TypeId) (x k v : Operand) (ho : o.op = .mapUpdate t x k v) (w' : World) (hr : (Instr.mapUpdate t (a.eval x) (a.eval k) (a.eval v)).run P w = .ok () w')
    (h : K (a.put o.dst undef) w') : Oper.wp P o a w K Q := by
  unfold Oper.wp execOp
  simp only [ho, Sem.run_bind, hr, Result.andThen_ok]
  exact h
end Go.Proofs.YtibepnilhmbpeaaDoor
namespace Go.Proofs.YtibepnilhmbpeaaDoor
set_option linter.unusedVariables false
set_option linter.unusedSimpArgs false
open Go.RowKit Go.Maps
theorem DK.begun {w w' : World} {p g m : Nat} {S : List Sec} {C : Nat → List (List UInt8)} {V : Nat → Value} {off off' : Bool} {fuse fuse' : Int} {n : Nat} (h : DK w p g m S C V off fuse n)
    (hp : w'.heap[p]? = some (.cells #[.slice (some ⟨g, 0, none⟩) S.length S.length, .map (some m), .bool off', .int .i64 fuse'] 70 (0, 0))) (hg : w.grownBy w' (some p)) (hf : fuse' ≤ 9223372036854775807) : DK w' p g m S C V off' fuse' n := by
  have hne := h.ne
  have hc : Chg (fun b => b = p) w w' := Chg.of_grown hg (fun b hb => by cases hb; rfl)
  exact ⟨h.fit, h.one, h.most, hp, (hc.block g (Array.getElem?_eq_some_iff.1 h.hg).1 (fun e => hne.1 e.symm)).trans h.hg, h.cache.kept hc (fun e => hne.2.1 e.symm) (fun i b hb e => by subst e; exact (h.apartV i).1 hb), h.few, hf⟩
theorem begF_le {off : Bool} {fuse : Int} (h : fuse ≤ 9223372036854775807) : begF off fuse ≤ 9223372036854775807 := by
  unfold begF
  split
  · decide
  · split
    · exact h
    · split <;> omega
set_option maxRecDepth 20000 in
theorem write_len (p : Nat) (a : Option Addr) (n c : Nat) (i : Int) (ba : Option Addr) (bl bc : Nat) (w : World) (h0 : w.cell? ⟨p, 0, none⟩ = some (.slice a n c)) (hl : bl ≠ 128) :
    Calls Tryd.prog 67 #[.pointer (some ⟨p, 0, none⟩), .int .i64 i, .slice ba bl bc] w fun e w' => e = .returned (.int .i64 1) ∧ w' = w := by
  have hi : ¬ (bl : Int) = 128 := by omega
  cases h : inB i n
  all_goals
    go_enter Tryd.func67, Tryd.ntmps67
    go_wp2_with (go_at_call 71; refine (has_t p a n c i _ h0).mono ?_; rintro e w1 ⟨rfl, hq⟩; have hq := hq.symm; subst hq; rw [h])
    go_ret
    exact ⟨rfl, rfl⟩
set_option maxRecDepth 20000 in
set_option maxHeartbeats 400000 in
theorem write_off (p g m i : Nat) (S : List Sec) (C : Nat → List (List UInt8)) (V : Nat → Value) (off : Bool) (fuse : Int) (n : Nat) (ba : Option Addr) (bc : Nat) (w : World) (h : DK w p g m S C V off fuse n) (hi : i < S.length) (he : begE off fuse = 5) :
    Calls Tryd.prog 67 #[.pointer (some ⟨p, 0, none⟩), .int .i64 (i : Int), .slice ba 128 bc] w fun e w' => e = .returned (.int .i64 5) ∧ DK w' p g m S C V (begO off fuse) (begF off fuse) n ∧ w.grownBy w' (some p) := by
  have h0 : w.cell? ⟨p, 0, none⟩ = some (.slice (some ⟨g, 0, none⟩) S.length S.length) := by rw [cell_of_row _ _ 0 _ _ _ h.hp]; rfl
  have hin : inB (i : Int) S.length = true := by simp [inB]; omega
  have HBG : Hid _ := begin_t p _ _ off fuse w h.hp h.fu
  have HD : Hid _ := h
  clear h
  go_enter Tryd.func67, Tryd.ntmps67
  go_wp2_with (first
    | (go_at_call 71; refine (has_t p _ _ _ i _ h0).mono ?_; rintro e w1 ⟨rfl, hq⟩; have hq := hq.symm; subst hq; rw [hin])
    | (go_at_call 43; refine Calls.mono HBG.out ?_; rintro e w2 ⟨rfl, hp2, hg2⟩; rw [he]))
  go_ret
  exact ⟨rfl, DK.begun HD.out hp2 hg2 (begF_le HD.out.fu), hg2⟩
theorem flatT_snoc (vs : List (List UInt8)) (t : List UInt8) : flatT (vs ++ [t]) = flatT vs ++ bv t := by simp [flatT]
theorem infoT : (Tryd.prog.info? 87).map (fun i => (i.zero, i.size, i.bytes)) = some (some (.agg z128), 128, 128) := by kernel_rfl
/-- the cache behind a write: what the map and the new row are -/
theorem CacheAt.put {w w' : World} {m N n : Nat} {C : Nat → List (List UInt8)} {V : Nat → Value} (h : CacheAt w m N n C V) (i : Nat) (hi : i < N) (hN : N ≤ 65536) (xs : List UInt8) (hx : xs.length = 128) (v : Value) {F : Nat → Prop} (hc : Chg F w w')
    (hF : ∀ b, F b → b = m ∨ (V i).ownBlock = some b) {D : DataW Value} (hD : w.ownsMap Tryd.prog 3 selfR m n D ∧ (∀ j, C j ≠ [] → ∀ z, D.atKey (kI j) z = .held (V j)) ∧ (∀ kl, Maps.has D kl = true → ∃ j, j < N ∧ kl = kI j ∧ C j ≠ []))
    (hm : w'.ownsMap Tryd.prog 3 selfR m (n + 1) (D.put (kI i) (.held v))) (hr : w'.ownsRow 0 87 128 v ((C i).length + 1) (flatT (C i ++ [xs]))) (hv : (V i).ownBlock = v.ownBlock ∨ ∃ b, v.ownBlock = some b ∧ w.heap.size ≤ b) :
    CacheAt w' m N (n + 1) (upd C i (C i ++ [xs])) (upd V i v) := by
  have hfar : ∀ j, j ≠ i → ∀ b, (V j).ownBlock = some b → ¬ F b := by
    intro j hj b hb hf
    rcases hF b hf with rfl | h1
    · exact h.apart_m j hb
    · exact hj (h.apart j i b hb h1)
  have hnew : ∀ j, j ≠ i → ∀ b, (V j).ownBlock = some b → v.ownBlock ≠ some b := by
    intro j hj b hb he
    rcases hv with h1 | ⟨b', h1, h2⟩
    · exact hj (h.apart j i b hb (h1.trans he))
    · rw [h1] at he
      cases he
      obtain ⟨cur, h3⟩ := row_at (h.rows j) hb
      have := (Array.getElem?_eq_some_iff.1 h3).1
      omega
  refine ⟨⟨_, hm, fun j hj z => ?_, fun kl hk => ?_⟩, fun j hj => ?_, fun j => ?_, fun j t ht => ?_, fun j k b h1 h2 => ?_, fun j => ?_, fun j hj => ?_⟩
  · by_cases e : j = i
    · subst e
      rw [upd_same]
      exact atKey_put_same (World.ownsMap.isMap hD.1) (kI_key (by omega)) _ z
    · rw [upd_other _ e] at hj ⊢
      rw [atKey_put_other (kI_ne e)]
      exact hD.2.1 j hj z
  · by_cases e : kl = kI i
    · exact ⟨i, hi, e, by rw [upd_same]; simp⟩
    · rw [has_put_other e] at hk
      obtain ⟨j, h1, h2, h3⟩ := hD.2.2 kl hk
      refine ⟨j, h1, h2, ?_⟩
      by_cases e2 : j = i
      · subst e2; exact absurd h2 e
      · rw [upd_other _ e2]; exact h3
  · by_cases e : j = i
    · subst e; rw [upd_same] at hj; simp at hj
    · rw [upd_other _ e] at hj ⊢; exact h.nil j hj
  · by_cases e : j = i
    · subst e; rw [upd_same, upd_same, List.length_append]; exact hr
    · rw [upd_other _ e, upd_other _ e]
      refine ⟨(h.rows j).1, ?_⟩
      rcases (h.rows j).2 with h0 | ⟨g, cap, cur, e1, hB, hg, r⟩
      · exact .inl h0
      · exact .inr ⟨g, cap, cur, e1, hB, (hc.block g (Array.getElem?_eq_some_iff.1 hg).1 (hfar j e g (by rw [e1]; rfl))).trans hg, r⟩
  · by_cases e : j = i
    · subst e; rw [upd_same] at ht
      rcases List.mem_append.1 ht with h1 | h1
      · exact h.txt j t h1
      · rw [List.mem_singleton.1 h1]; exact hx
    · rw [upd_other _ e] at ht; exact h.txt j t ht
  · by_cases e1 : j = i
    · by_cases e2 : k = i
      · omega
      · rw [upd_other _ e2] at h2
        subst e1
        rw [upd_same] at h1
        exact absurd h1 (hnew k e2 b h2)
    · rw [upd_other _ e1] at h1
      by_cases e2 : k = i
      · subst e2
        rw [upd_same] at h2
        exact absurd h2 (hnew j e1 b h1)
      · rw [upd_other _ e2] at h2
        exact h.apart j k b h1 h2
  · by_cases e : j = i
    · subst e; rw [upd_same, List.length_append]; have := h.few j; simp; omega
    · rw [upd_other _ e]; have := h.few j; omega
  · by_cases e : j = i
    · subst e; exact hi
    · rw [upd_other _ e] at hj; exact h.ins j hj
theorem write_post {w w2 w4 w5 w6 : World} {p g m i n : Nat} {S : List Sec} {C : Nat → List (List UInt8)} {V : Nat → Value} {off : Bool} {fuse : Int} {D : DataW Value} {a : Option Addr} {c : Nat} {xs : List UInt8} {g5 cap5 : Nat} {X : Array Value}
    (h : DK w2 p g m S C V off fuse n) (hD : w2.ownsMap Tryd.prog 3 selfR m n D ∧ (∀ j, C j ≠ [] → ∀ z, D.atKey (kI j) z = .held (V j)) ∧ (∀ kl, Maps.has D kl = true → ∃ j, j < S.length ∧ kl = kI j ∧ C j ≠ [])) (hV : V i = .slice a (C i).length c) (hi : i < S.length) (hn : n < 1099511627776)
    (hown : w5.ownsRow 0 87 128 (.slice (some ⟨g5, 0, none⟩) ((C i).length + 1) cap5) ((C i).length + 1) (flatT (C i) ++ bv xs)) (hx : xs.length = 128) (hb4 : Below w2.heap.size w2 w4) (hg5 : (w4.alloc (.cells X 87)).grownBy w5 (Value.slice a (C i).length c).ownBlock)
    (hat : (Value.slice a (C i).length c).ownBlock = some g5 ∨ g5 = (w4.alloc (.cells X 87)).heap.size) (hlt : g5 < w5.heap.size) (hm6 : w6.ownsMap Tryd.prog 3 selfR m (n + 1) (D.put (kI i) (.held (.slice (some ⟨g5, 0, none⟩) ((C i).length + 1) cap5)))) (hg6 : w5.grownBy w6 (some m)) (hg2 : w.grownBy w2 (some p)) :
    ∃ v, DK w6 p g m S (upd C i (C i ++ [xs])) (upd V i v) off fuse (n + 1) ∧ Chg (fun b => b = p ∨ b = m ∨ (V i).ownBlock = some b) w w6 ∧ ((V i).ownBlock = v.ownBlock ∨ ∃ b, v.ownBlock = some b ∧ w.heap.size ≤ b) := by
  rw [← hV] at hg5 hat
  have hb5 : Below w2.heap.size w2 (w4.alloc (.cells X 87)) := al hb4 _
  have hmlt : m < w2.heap.size := h.lt (.inr (.inr (.inl rfl)))
  have hc : Chg (fun b => b = m ∨ (V i).ownBlock = some b) w2 w6 :=
    ((Chg.of_below hb5).trans (Chg.of_grown hg5 (fun b hb => .inr hb)) (fun k hk => .inl hk)).trans (Chg.of_grown (F := fun b => b = m ∨ (V i).ownBlock = some b) hg6 (fun b hb => by cases hb; exact .inl rfl)) (fun k hk => .inl hk)
  have hgm : g5 ≠ m := by
    rcases hat with h1 | h1
    · intro e; subst e; exact h.cache.apart_m i h1
    · have := hb5.size; omega
  have hrow6 : w6.ownsRow 0 87 128 (.slice (some ⟨g5, 0, none⟩) ((C i).length + 1) cap5) ((C i).length + 1) (flatT (C i ++ [xs])) := by
    rw [flatT_snoc]
    exact World.ownsRow.kept hown hg6 (.inr (by simpa [Value.ownBlock] using hgm))
  have hv : (V i).ownBlock = (Value.slice (some ⟨g5, 0, none⟩) ((C i).length + 1) cap5).ownBlock ∨ ∃ b, (Value.slice (some ⟨g5, 0, none⟩) ((C i).length + 1) cap5).ownBlock = some b ∧ w2.heap.size ≤ b := by
    rcases hat with h1 | h1
    · exact .inl h1
    · exact .inr ⟨g5, rfl, by have := hb5.size; omega⟩
  refine ⟨.slice (some ⟨g5, 0, none⟩) ((C i).length + 1) cap5, ?_, ?_, ?_⟩
  · have hne := h.ne
    have hap := h.apartV i
    refine ⟨h.fit, h.one, h.most, ?_, ?_, h.cache.put i hi h.most xs hx _ hc (fun b hb => hb) hD hm6 hrow6 hv, by omega, h.fu⟩
    · exact (hc.block p (h.lt (.inl rfl)) (fun e => e.elim hne.2.1 hap.1)).trans h.hp
    · exact (hc.block g (h.lt (.inr (.inl rfl))) (fun e => e.elim hne.2.2 hap.2.1)).trans h.hg
  · exact (Chg.of_grown (F := fun b => b = p ∨ b = m ∨ (V i).ownBlock = some b) hg2 (fun b hb => by cases hb; exact .inl rfl)).trans hc (fun k hk => .inl (.inr hk))
  · rcases hv with h1 | ⟨b, h1, h2⟩
    · exact .inl h1
    · exact .inr ⟨b, h1, Nat.le_trans hg2.size h2⟩
set_option maxRecDepth 20000 in
set_option maxHeartbeats 800000 in
theorem write_t (p g m i : Nat) (S : List Sec) (C : Nat → List (List UInt8)) (V : Nat → Value) (off : Bool) (fuse : Int) (n : Nat) (ba : Option Addr) (bc : Nat) (xs : List UInt8) (w : World) (h : DK w p g m S C V off fuse n) (hn : n < 1099511627776) (hi : i < S.length) (he : begE off fuse = 0) (hx : Rd w ba xs) (hl : xs.length = 128) (hbp : ∀ a, ba = some a → a.block ≠ p) :
    Calls Tryd.prog 67 #[.pointer (some ⟨p, 0, none⟩), .int .i64 (i : Int), .slice ba 128 bc] w fun e w' => e = .returned (.int .i64 0) ∧ ∃ v, DK w' p g m S (upd C i (C i ++ [xs])) (upd V i v) (begO off fuse) (begF off fuse) (n + 1) ∧ Chg (fun b => b = p ∨ b = m ∨ (V i).ownBlock = some b) w w' ∧ ((V i).ownBlock = v.ownBlock ∨ ∃ b, v.ownBlock = some b ∧ w.heap.size ≤ b) := by
  have h0 : w.cell? ⟨p, 0, none⟩ = some (.slice (some ⟨g, 0, none⟩) S.length S.length) := by rw [cell_of_row _ _ 0 _ _ _ h.hp]; rfl
  have hin : inB (i : Int) S.length = true := by simp [inB]; omega
  have HBG : Hid _ := begin_t p _ _ off fuse w h.hp h.fu
  have HD : Hid _ := h
  have HX : Hid _ := hx
  have HI : Hid (i < S.length) := hi
  obtain ⟨X, hX⟩ : ∃ X : List Value, X = bv xs := ⟨_, rfl⟩
  have HXe : Hid (X = bv xs) := hX
  have HXl : Hid (X.length = 128) := by unfold Hid; rw [hX, bv_length, hl]
  have HX1 : Hid (∀ v ∈ X, v.oneCell' = true) := by unfold Hid; rw [hX]; exact bv_one xs
  obtain ⟨a, c, hVi, -⟩ := h.looks i hi
  have HVi : Hid (V i = _) := hVi
  clear h hx hX hVi
  go_enter Tryd.func67, Tryd.ntmps67
  go_wp2_with (first
    | (go_at_call 71; refine (has_t p _ _ _ i _ h0).mono ?_; rintro e w1 ⟨rfl, hq⟩; have hq := hq.symm; subst hq; rw [hin])
    | (go_at_call 43; refine Calls.mono HBG.out ?_; rintro e w2 ⟨rfl, hp2, hg2⟩; rw [he]))
  have hD2 : DK w2 p g m S C V (begO off fuse) (begF off fuse) n := DK.begun HD.out hp2 hg2 (begF_le HD.out.fu)
  have hx2 : Rd w2 ba xs := Rd.grown HX.out hg2 (fun q hq => by have := hbp q hq; simpa using this)
  have hs2 := hg2.size
  obtain ⟨a', c', hV', hL⟩ := hD2.looks i HI.out
  obtain ⟨rfl, -, rfl⟩ : a = a' ∧ (C i).length = (C i).length ∧ c = c' := by have := HVi.out.symm.trans hV'; simpa using this
  have hlk := hL.run w2.drew (Below.refl _ _).drew
  have hlk2 : ∀ u, Below w2.heap.size w2 u → (Instr.lookup 68 (.map (some m)) (.int .i64 (i : Int)) false).run Tryd.prog u = .ok (.slice a (C i).length c) u := hL.run
  have HLK2 : Hid _ := hlk2
  have HLK : Hid _ := hlk
  have HD2 : Hid _ := hD2
  have HX2 : Hid _ := hx2
  have hpm : w2.cell? ⟨p, 1, none⟩ = some (.map (some m)) := by rw [cell_of_row _ _ 1 _ _ _ hp2]; rfl
  have hpl : p < w2.heap.size := World.block_lt_of_cell? w2 _ hpm
  have hmne : m ≠ p := fun e => hD2.ne.2.1 e.symm
  have hvne : (V i).ownBlock ≠ some p := (hD2.apartV i).1
  have hvne2 : (Value.slice a (C i).length c).ownBlock ≠ some p := by rw [← HVi.out]; exact hvne
  have HTX : Hid (∀ u, Below w2.heap.size w2 u → Calls Tryd.prog 76 #[.slice ba 128 bc] u fun e w' => e = .returned (.agg X.toArray) ∧ Below u.heap.size u w') := by
    intro u hu
    rw [HXe.out]
    exact textOf_t ba bc xs u (Rd.below HX2.out hu) hl
  obtain ⟨i0, hi0, hz0, hz1, hz2⟩ := info_parts infoT
  obtain ⟨D, hDm⟩ := hD2.cache.own
  have HDm : Hid _ := hDm
  have hfew := hD2.cache.few i
  have HI0 : Hid (_ ∧ _ ∧ _ ∧ _) := ⟨hi0, hz0, hz1, hz2⟩
  clear hlk hlk2 hL hV' hD2 hDm hi0 hz0 hz1 hz2 hx2
  go_wp2_with fail
  refine wp_region_noPanic ?_
  refine wp_region_held_drew (S := (fun u => u.cell? ⟨p, 1, none⟩ = some (.map (some m)))) (by kernel_rfl) (by first | exact hpm | exact (hb4.cell (p := ⟨p, 1, none⟩) hpl).trans hpm | exact ((al hb4 _).cell (p := ⟨p, 1, none⟩) hpl).trans hpm | exact hg5.cell (((al hb4 _).cell (p := ⟨p, 1, none⟩) hpl).trans hpm) (by simpa using hvne2.symm) | exact hg6.cell (hg5.cell (((al hb4 _).cell (p := ⟨p, 1, none⟩) hpl).trans hpm) (by simpa using hvne2.symm)) (by simpa using hmne.symm)) (fun hHeld => ?_)
  refine take_at (i := 0) 22 (v := ?_) rfl rfl (by kernel_rfl) (by kernel_rfl) (by kernel_rfl) (fun _ _ _ h => h) (by rfl) ?_ hHeld ?_
  rotate_left
  · (intro w hSw; (try dsimp only at hSw); go_simp; try with_reducible rfl)
  simp only [Act.put, List.setIfInBounds_toArray, List.set_cons_zero, List.set_cons_succ]
  refine take_at (i := 1) 23 (v := ?_) rfl rfl (by kernel_rfl) (by kernel_rfl) (by kernel_rfl) (fun _ _ _ h => h) (by rfl) ?_ hHeld ?_
  rotate_left
  · (intro w hSw; (try dsimp only at hSw); go_simp; try with_reducible rfl)
  simp only [Act.put, List.setIfInBounds_toArray, List.set_cons_zero, List.set_cons_succ]
  refine take_at (i := 2) 24 (v := ?_) rfl rfl (by kernel_rfl) (by kernel_rfl) (by kernel_rfl) (fun _ _ _ h => h) (by rfl) ?_ hHeld ?_
  rotate_left
  · (intro w hSw; (try dsimp only at hSw); go_simp; try with_reducible rfl)
  simp only [Act.put, List.setIfInBounds_toArray, List.set_cons_zero, List.set_cons_succ]
  refine take_at (i := 3) 25 (v := ?_) rfl rfl (by kernel_rfl) (by kernel_rfl) (by kernel_rfl) (fun _ _ _ h => h) (by rfl) ?_ hHeld ?_
  rotate_left
  · (intro w hSw; (try dsimp only at hSw); go_simp; try with_reducible rfl)
  simp only [Act.put, List.setIfInBounds_toArray, List.set_cons_zero, List.set_cons_succ]
  refine take_at (i := 4) 26 (v := ?_) rfl rfl (by kernel_rfl) (by kernel_rfl) (by kernel_rfl) (fun _ _ _ h => h) (by rfl) ?_ hHeld ?_
  rotate_left
  · (intro w hSw; (try dsimp only at hSw); go_simp; try with_reducible rfl)
  simp only [Act.put, List.setIfInBounds_toArray, List.set_cons_zero, List.set_cons_succ]
  refine take_at (i := 5) 27 (v := ?_) rfl rfl (by kernel_rfl) (by kernel_rfl) (by kernel_rfl) (fun _ _ _ h => h) (by rfl) ?_ hHeld ?_
  rotate_left
  · (intro w hSw; (try dsimp only at hSw); go_simp; try with_reducible rfl)
  simp only [Act.put, List.setIfInBounds_toArray, List.set_cons_zero, List.set_cons_succ]
  refine take_at (i := 6) 28 (v := ?_) rfl rfl (by kernel_rfl) (by kernel_rfl) (by kernel_rfl) (fun _ _ _ h => h) (by rfl) ?_ hHeld ?_
  rotate_left
  · (intro w hSw; (try dsimp only at hSw); go_simp; try with_reducible rfl)
  simp only [Act.put, List.setIfInBounds_toArray, List.set_cons_zero, List.set_cons_succ]
  refine take_at (i := 7) 29 (v := ?_) rfl rfl (by kernel_rfl) (by kernel_rfl) (by kernel_rfl) (fun _ _ _ h => h) (by rfl) ?_ hHeld ?_
  rotate_left
  · (intro w hSw; (try dsimp only at hSw); go_simp; try with_reducible rfl)
  simp only [Act.put, List.setIfInBounds_toArray, List.set_cons_zero, List.set_cons_succ]
  refine take_at (i := 8) 30 (v := ?_) rfl rfl (by kernel_rfl) (by kernel_rfl) (by kernel_rfl) (fun _ _ _ h => h) (by rfl) ?_ hHeld ?_
  rotate_left
  · (intro w hSw; (try dsimp only at hSw); go_simp; try with_reducible rfl)
  simp only [Act.put, List.setIfInBounds_toArray, List.set_cons_zero, List.set_cons_succ]
  refine take_at (i := 9) 31 (v := ?_) rfl rfl (by kernel_rfl) (by kernel_rfl) (by kernel_rfl) (fun _ _ _ h => h) (by rfl) ?_ hHeld ?_
  rotate_left
  · (intro w hSw; (try dsimp only at hSw); go_simp; try with_reducible rfl)
  simp only [Act.put, List.setIfInBounds_toArray, List.set_cons_zero, List.set_cons_succ]
  refine take_at (i := 11) 33 (v := ?_) rfl rfl (by kernel_rfl) (by kernel_rfl) (by kernel_rfl) (fun _ _ _ h => h) (by rfl) ?_ hHeld ?_
  rotate_left
  · (intro w hSw; (try dsimp only at hSw); go_simp; try with_reducible rfl)
  simp only [Act.put, List.setIfInBounds_toArray, List.set_cons_zero, List.set_cons_succ]
  refine wpAnyH_ready (rs := [10, 12]) (by kernel_rfl) (by simp) ?_
  refine AllReadyH.cons (o := _) rfl (fun K hK => ?_) ?_
  focus
    rw [if_pos (by rfl)]
    refine val_wp 32 (v := .slice a (C i).length c) rfl ?_ ?_
    · (refine exec_lookup (by rfl) ?_; exact HLK.out)
    refine hK.out _ _ (by first | exact hpm | exact (hb4.cell (p := ⟨p, 1, none⟩) hpl).trans hpm | exact ((al hb4 _).cell (p := ⟨p, 1, none⟩) hpl).trans hpm | exact hg5.cell (((al hb4 _).cell (p := ⟨p, 1, none⟩) hpl).trans hpm) (by simpa using hvne2.symm) | exact hg6.cell (hg5.cell (((al hb4 _).cell (p := ⟨p, 1, none⟩) hpl).trans hpm) (by simpa using hvne2.symm)) (by simpa using hmne.symm)) ?_
    clear hK K
    intro hHeld2
    clear hHeld
    have hHeld := hHeld2
    clear hHeld2
    simp only [Act.put, List.setIfInBounds_toArray, List.set_cons_zero, List.set_cons_succ]
    refine run_at (i := 12) rfl (by kernel_rfl) (by rfl) (fun K hK => ?_)
    simp only [List.getElem_toArray, List.getElem_cons_zero, List.getElem_cons_succ]
    go_simp
    first | (go_at_call 76; refine Calls.mono (HTX.out _ (Below.refl _ _).drew) ?_; rintro e w4 ⟨rfl, hb4'⟩; have hb4 : Below w2.heap.size w2 w4 := below_next (Below.refl _ _).drew hb4') | (refine wp_bs _ (by rfl) X (by rfl) HXl.out ?_) | (refine wp_append_lies _ _ _ 118 (by rfl) 0 87 i0 (.agg z128) 128 128 Tryd.underlying118 HI0.out.1 HI0.out.2.1 HI0.out.2.2.1 HI0.out.2.2.2 rfl (by decide) (.slice a (C i).length c) (C i).length (flatT (C i)) (by rfl) (by rw [← HVi.out]; exact (HD2.out.below (al hb4 _)).cache.rows i) ⟨w4.heap.size, 0, none⟩ 1 1 X (by rfl) (by rw [HXl.out]) (World.news_of_block (heap_alloc_new w4 _)) HX1.out (by decide) (by simp only [maxLen]; omega) (by omega) (Nat.zero_le _) _ rfl ?_; intro g5 cap5 w5 hown5 hg5 hat5 hlt5) | (obtain ⟨w6, hr6, hm6, hg6⟩ := World.ownsMap.update (World.ownsMap.kept (row := (Value.slice a (C i).length c).ownBlock) (World.ownsMap.alloc (World.ownsMap.kept (row := none) HDm.out.1 (gr_below (World.grownBy.refl w2 none) hb4) (by simp)) (.cells X.toArray 87)) hg5 (by have := (HD2.out.apartV i).2.2; rw [HVi.out] at this; exact fun e => this e.symm)) keyI Tryd.underlying68 (by simp only [maxLen]; omega) (kI_of (i := i) (by have := HD2.out.most; have := HI.out; omega)) (show selfR (.slice (some ⟨g5, 0, none⟩) ((C i).length + 1) cap5) = some (.held _, []) from rfl); refine wp_mapUp 68 _ _ _ (by rfl) w6 (by exact hr6) ?_)
    go_wp2_with fail
    refine hK.out _ _ (by first | exact hpm | exact (hb4.cell (p := ⟨p, 1, none⟩) hpl).trans hpm | exact ((al hb4 _).cell (p := ⟨p, 1, none⟩) hpl).trans hpm | exact hg5.cell (((al hb4 _).cell (p := ⟨p, 1, none⟩) hpl).trans hpm) (by simpa using hvne2.symm) | exact hg6.cell (hg5.cell (((al hb4 _).cell (p := ⟨p, 1, none⟩) hpl).trans hpm) (by simpa using hvne2.symm)) (by simpa using hmne.symm)) ?_
    clear hK K
    intro hHeld2
    clear hHeld
    have hHeld := hHeld2
    clear hHeld2
    try simp only [Act.put, List.setIfInBounds_toArray, List.set_cons_zero, List.set_cons_succ]
    refine run_at (i := 13) rfl (by kernel_rfl) (by rfl) (fun K hK => ?_)
    simp only [List.getElem_toArray, List.getElem_cons_zero, List.getElem_cons_succ]
    first | (go_at_call 76; refine Calls.mono (HTX.out _ (Below.refl _ _).drew) ?_; rintro e w4 ⟨rfl, hb4'⟩; have hb4 : Below w2.heap.size w2 w4 := below_next (Below.refl _ _).drew hb4') | (refine wp_bs _ (by rfl) X (by rfl) HXl.out ?_) | (refine wp_append_lies _ _ _ 118 (by rfl) 0 87 i0 (.agg z128) 128 128 Tryd.underlying118 HI0.out.1 HI0.out.2.1 HI0.out.2.2.1 HI0.out.2.2.2 rfl (by decide) (.slice a (C i).length c) (C i).length (flatT (C i)) (by rfl) (by rw [← HVi.out]; exact (HD2.out.below (al hb4 _)).cache.rows i) ⟨w4.heap.size, 0, none⟩ 1 1 X (by rfl) (by rw [HXl.out]) (World.news_of_block (heap_alloc_new w4 _)) HX1.out (by decide) (by simp only [maxLen]; omega) (by omega) (Nat.zero_le _) _ rfl ?_; intro g5 cap5 w5 hown5 hg5 hat5 hlt5) | (obtain ⟨w6, hr6, hm6, hg6⟩ := World.ownsMap.update (World.ownsMap.kept (row := (Value.slice a (C i).length c).ownBlock) (World.ownsMap.alloc (World.ownsMap.kept (row := none) HDm.out.1 (gr_below (World.grownBy.refl w2 none) hb4) (by simp)) (.cells X.toArray 87)) hg5 (by have := (HD2.out.apartV i).2.2; rw [HVi.out] at this; exact fun e => this e.symm)) keyI Tryd.underlying68 (by simp only [maxLen]; omega) (kI_of (i := i) (by have := HD2.out.most; have := HI.out; omega)) (show selfR (.slice (some ⟨g5, 0, none⟩) ((C i).length + 1) cap5) = some (.held _, []) from rfl); refine wp_mapUp 68 _ _ _ (by rfl) w6 (by exact hr6) ?_)
    refine hK.out _ _ (by first | exact hpm | exact (hb4.cell (p := ⟨p, 1, none⟩) hpl).trans hpm | exact ((al hb4 _).cell (p := ⟨p, 1, none⟩) hpl).trans hpm | exact hg5.cell (((al hb4 _).cell (p := ⟨p, 1, none⟩) hpl).trans hpm) (by simpa using hvne2.symm) | exact hg6.cell (hg5.cell (((al hb4 _).cell (p := ⟨p, 1, none⟩) hpl).trans hpm) (by simpa using hvne2.symm)) (by simpa using hmne.symm)) ?_
    clear hK K
    intro hHeld2
    clear hHeld
    have hHeld := hHeld2
    clear hHeld2
    try simp only [Act.put, List.setIfInBounds_toArray, List.set_cons_zero, List.set_cons_succ]
    refine run_at (i := 14) rfl (by kernel_rfl) (by rfl) (fun K hK => ?_)
    simp only [List.getElem_toArray, List.getElem_cons_zero, List.getElem_cons_succ]
    first | (go_at_call 76; refine Calls.mono (HTX.out _ (Below.refl _ _).drew) ?_; rintro e w4 ⟨rfl, hb4'⟩; have hb4 : Below w2.heap.size w2 w4 := below_next (Below.refl _ _).drew hb4') | (refine wp_bs _ (by rfl) X (by rfl) HXl.out ?_) | (refine wp_append_lies _ _ _ 118 (by rfl) 0 87 i0 (.agg z128) 128 128 Tryd.underlying118 HI0.out.1 HI0.out.2.1 HI0.out.2.2.1 HI0.out.2.2.2 rfl (by decide) (.slice a (C i).length c) (C i).length (flatT (C i)) (by rfl) (by rw [← HVi.out]; exact (HD2.out.below (al hb4 _)).cache.rows i) ⟨w4.heap.size, 0, none⟩ 1 1 X (by rfl) (by rw [HXl.out]) (World.news_of_block (heap_alloc_new w4 _)) HX1.out (by decide) (by simp only [maxLen]; omega) (by omega) (Nat.zero_le _) _ rfl ?_; intro g5 cap5 w5 hown5 hg5 hat5 hlt5) | (obtain ⟨w6, hr6, hm6, hg6⟩ := World.ownsMap.update (World.ownsMap.kept (row := (Value.slice a (C i).length c).ownBlock) (World.ownsMap.alloc (World.ownsMap.kept (row := none) HDm.out.1 (gr_below (World.grownBy.refl w2 none) hb4) (by simp)) (.cells X.toArray 87)) hg5 (by have := (HD2.out.apartV i).2.2; rw [HVi.out] at this; exact fun e => this e.symm)) keyI Tryd.underlying68 (by simp only [maxLen]; omega) (kI_of (i := i) (by have := HD2.out.most; have := HI.out; omega)) (show selfR (.slice (some ⟨g5, 0, none⟩) ((C i).length + 1) cap5) = some (.held _, []) from rfl); refine wp_mapUp 68 _ _ _ (by rfl) w6 (by exact hr6) ?_)
    refine hK.out _ _ (by first | exact hpm | exact (hb4.cell (p := ⟨p, 1, none⟩) hpl).trans hpm | exact ((al hb4 _).cell (p := ⟨p, 1, none⟩) hpl).trans hpm | exact hg5.cell (((al hb4 _).cell (p := ⟨p, 1, none⟩) hpl).trans hpm) (by simpa using hvne2.symm) | exact hg6.cell (hg5.cell (((al hb4 _).cell (p := ⟨p, 1, none⟩) hpl).trans hpm) (by simpa using hvne2.symm)) (by simpa using hmne.symm)) ?_
    clear hK K
    intro hHeld2
    clear hHeld
    have hHeld := hHeld2
    clear hHeld2
    try simp only [Act.put, List.setIfInBounds_toArray, List.set_cons_zero, List.set_cons_succ]
    refine run_at (i := 15) rfl (by kernel_rfl) (by rfl) (fun K hK => ?_)
    simp only [List.getElem_toArray, List.getElem_cons_zero, List.getElem_cons_succ]
    first | (go_at_call 76; refine Calls.mono (HTX.out _ (Below.refl _ _).drew) ?_; rintro e w4 ⟨rfl, hb4'⟩; have hb4 : Below w2.heap.size w2 w4 := below_next (Below.refl _ _).drew hb4') | (refine wp_bs _ (by rfl) X (by rfl) HXl.out ?_) | (refine wp_append_lies _ _ _ 118 (by rfl) 0 87 i0 (.agg z128) 128 128 Tryd.underlying118 HI0.out.1 HI0.out.2.1 HI0.out.2.2.1 HI0.out.2.2.2 rfl (by decide) (.slice a (C i).length c) (C i).length (flatT (C i)) (by rfl) (by rw [← HVi.out]; exact (HD2.out.below (al hb4 _)).cache.rows i) ⟨w4.heap.size, 0, none⟩ 1 1 X (by rfl) (by rw [HXl.out]) (World.news_of_block (heap_alloc_new w4 _)) HX1.out (by decide) (by simp only [maxLen]; omega) (by omega) (Nat.zero_le _) _ rfl ?_; intro g5 cap5 w5 hown5 hg5 hat5 hlt5) | (obtain ⟨w6, hr6, hm6, hg6⟩ := World.ownsMap.update (World.ownsMap.kept (row := (Value.slice a (C i).length c).ownBlock) (World.ownsMap.alloc (World.ownsMap.kept (row := none) HDm.out.1 (gr_below (World.grownBy.refl w2 none) hb4) (by simp)) (.cells X.toArray 87)) hg5 (by have := (HD2.out.apartV i).2.2; rw [HVi.out] at this; exact fun e => this e.symm)) keyI Tryd.underlying68 (by simp only [maxLen]; omega) (kI_of (i := i) (by have := HD2.out.most; have := HI.out; omega)) (show selfR (.slice (some ⟨g5, 0, none⟩) ((C i).length + 1) cap5) = some (.held _, []) from rfl); refine wp_mapUp 68 _ _ _ (by rfl) w6 (by exact hr6) ?_)
    refine hK.out _ _ (by first | exact hpm | exact (hb4.cell (p := ⟨p, 1, none⟩) hpl).trans hpm | exact ((al hb4 _).cell (p := ⟨p, 1, none⟩) hpl).trans hpm | exact hg5.cell (((al hb4 _).cell (p := ⟨p, 1, none⟩) hpl).trans hpm) (by simpa using hvne2.symm) | exact hg6.cell (hg5.cell (((al hb4 _).cell (p := ⟨p, 1, none⟩) hpl).trans hpm) (by simpa using hvne2.symm)) (by simpa using hmne.symm)) ?_
    clear hK K
    intro hHeld2
    clear hHeld
    have hHeld := hHeld2
    clear hHeld2
    try simp only [Act.put, List.setIfInBounds_toArray, List.set_cons_zero, List.set_cons_succ]
    refine wpAnyH_done (by kernel_rfl) ?_ _
    refine NoPanic.normal ?_
  rotate_left 1
  refine AllReadyH.cons (o := _) rfl (fun K hK => ?_) AllReadyH.nil
  focus
    rw [if_pos (by rfl)]
    simp only [List.getElem_toArray, List.getElem_cons_zero, List.getElem_cons_succ]
    go_simp
    first | (go_at_call 76; refine Calls.mono (HTX.out _ (Below.refl _ _).drew) ?_; rintro e w4 ⟨rfl, hb4'⟩; have hb4 : Below w2.heap.size w2 w4 := below_next (Below.refl _ _).drew hb4') | (refine wp_bs _ (by rfl) X (by rfl) HXl.out ?_) | (refine wp_append_lies _ _ _ 118 (by rfl) 0 87 i0 (.agg z128) 128 128 Tryd.underlying118 HI0.out.1 HI0.out.2.1 HI0.out.2.2.1 HI0.out.2.2.2 rfl (by decide) (.slice a (C i).length c) (C i).length (flatT (C i)) (by rfl) (by rw [← HVi.out]; exact (HD2.out.below (al hb4 _)).cache.rows i) ⟨w4.heap.size, 0, none⟩ 1 1 X (by rfl) (by rw [HXl.out]) (World.news_of_block (heap_alloc_new w4 _)) HX1.out (by decide) (by simp only [maxLen]; omega) (by omega) (Nat.zero_le _) _ rfl ?_; intro g5 cap5 w5 hown5 hg5 hat5 hlt5) | (obtain ⟨w6, hr6, hm6, hg6⟩ := World.ownsMap.update (World.ownsMap.kept (row := (Value.slice a (C i).length c).ownBlock) (World.ownsMap.alloc (World.ownsMap.kept (row := none) HDm.out.1 (gr_below (World.grownBy.refl w2 none) hb4) (by simp)) (.cells X.toArray 87)) hg5 (by have := (HD2.out.apartV i).2.2; rw [HVi.out] at this; exact fun e => this e.symm)) keyI Tryd.underlying68 (by simp only [maxLen]; omega) (kI_of (i := i) (by have := HD2.out.most; have := HI.out; omega)) (show selfR (.slice (some ⟨g5, 0, none⟩) ((C i).length + 1) cap5) = some (.held _, []) from rfl); refine wp_mapUp 68 _ _ _ (by rfl) w6 (by exact hr6) ?_)
    go_wp2_with fail
    refine hK.out _ _ (by first | exact hpm | exact (hb4.cell (p := ⟨p, 1, none⟩) hpl).trans hpm | exact ((al hb4 _).cell (p := ⟨p, 1, none⟩) hpl).trans hpm | exact hg5.cell (((al hb4 _).cell (p := ⟨p, 1, none⟩) hpl).trans hpm) (by simpa using hvne2.symm) | exact hg6.cell (hg5.cell (((al hb4 _).cell (p := ⟨p, 1, none⟩) hpl).trans hpm) (by simpa using hvne2.symm)) (by simpa using hmne.symm)) ?_
    clear hK K
    intro hHeld2
    clear hHeld
    have hHeld := hHeld2
    clear hHeld2
    try simp only [Act.put, List.setIfInBounds_toArray, List.set_cons_zero, List.set_cons_succ]
    refine wpAnyH_ready (rs := [10, 13]) (by kernel_rfl) (by simp) ?_
    refine AllReadyH.cons (o := _) rfl (fun K hK => ?_) ?_
    focus
      rw [if_pos (by rfl)]
      refine val_wp 32 (v := .slice a (C i).length c) rfl ?_ ?_
      · (refine exec_lookup (by rfl) ?_; exact HLK2.out _ hb4)
      refine hK.out _ _ (by first | exact hpm | exact (hb4.cell (p := ⟨p, 1, none⟩) hpl).trans hpm | exact ((al hb4 _).cell (p := ⟨p, 1, none⟩) hpl).trans hpm | exact hg5.cell (((al hb4 _).cell (p := ⟨p, 1, none⟩) hpl).trans hpm) (by simpa using hvne2.symm) | exact hg6.cell (hg5.cell (((al hb4 _).cell (p := ⟨p, 1, none⟩) hpl).trans hpm) (by simpa using hvne2.symm)) (by simpa using hmne.symm)) ?_
      clear hK K
      intro hHeld2
      clear hHeld
      have hHeld := hHeld2
      clear hHeld2
      simp only [Act.put, List.setIfInBounds_toArray, List.set_cons_zero, List.set_cons_succ]
      refine run_at (i := 13) rfl (by kernel_rfl) (by rfl) (fun K hK => ?_)
      simp only [List.getElem_toArray, List.getElem_cons_zero, List.getElem_cons_succ]
      first | (go_at_call 76; refine Calls.mono (HTX.out _ (Below.refl _ _).drew) ?_; rintro e w4 ⟨rfl, hb4'⟩; have hb4 : Below w2.heap.size w2 w4 := below_next (Below.refl _ _).drew hb4') | (refine wp_bs _ (by rfl) X (by rfl) HXl.out ?_) | (refine wp_append_lies _ _ _ 118 (by rfl) 0 87 i0 (.agg z128) 128 128 Tryd.underlying118 HI0.out.1 HI0.out.2.1 HI0.out.2.2.1 HI0.out.2.2.2 rfl (by decide) (.slice a (C i).length c) (C i).length (flatT (C i)) (by rfl) (by rw [← HVi.out]; exact (HD2.out.below (al hb4 _)).cache.rows i) ⟨w4.heap.size, 0, none⟩ 1 1 X (by rfl) (by rw [HXl.out]) (World.news_of_block (heap_alloc_new w4 _)) HX1.out (by decide) (by simp only [maxLen]; omega) (by omega) (Nat.zero_le _) _ rfl ?_; intro g5 cap5 w5 hown5 hg5 hat5 hlt5) | (obtain ⟨w6, hr6, hm6, hg6⟩ := World.ownsMap.update (World.ownsMap.kept (row := (Value.slice a (C i).length c).ownBlock) (World.ownsMap.alloc (World.ownsMap.kept (row := none) HDm.out.1 (gr_below (World.grownBy.refl w2 none) hb4) (by simp)) (.cells X.toArray 87)) hg5 (by have := (HD2.out.apartV i).2.2; rw [HVi.out] at this; exact fun e => this e.symm)) keyI Tryd.underlying68 (by simp only [maxLen]; omega) (kI_of (i := i) (by have := HD2.out.most; have := HI.out; omega)) (show selfR (.slice (some ⟨g5, 0, none⟩) ((C i).length + 1) cap5) = some (.held _, []) from rfl); refine wp_mapUp 68 _ _ _ (by rfl) w6 (by exact hr6) ?_)
      refine hK.out _ _ (by first | exact hpm | exact (hb4.cell (p := ⟨p, 1, none⟩) hpl).trans hpm | exact ((al hb4 _).cell (p := ⟨p, 1, none⟩) hpl).trans hpm | exact hg5.cell (((al hb4 _).cell (p := ⟨p, 1, none⟩) hpl).trans hpm) (by simpa using hvne2.symm) | exact hg6.cell (hg5.cell (((al hb4 _).cell (p := ⟨p, 1, none⟩) hpl).trans hpm) (by simpa using hvne2.symm)) (by simpa using hmne.symm)) ?_
      clear hK K
      intro hHeld2
      clear hHeld
      have hHeld := hHeld2
      clear hHeld2
      try simp only [Act.put, List.setIfInBounds_toArray, List.set_cons_zero, List.set_cons_succ]
      refine run_at (i := 14) rfl (by kernel_rfl) (by rfl) (fun K hK => ?_)
      simp only [List.getElem_toArray, List.getElem_cons_zero, List.getElem_cons_succ]
      first | (go_at_call 76; refine Calls.mono (HTX.out _ (Below.refl _ _).drew) ?_; rintro e w4 ⟨rfl, hb4'⟩; have hb4 : Below w2.heap.size w2 w4 := below_next (Below.refl _ _).drew hb4') | (refine wp_bs _ (by rfl) X (by rfl) HXl.out ?_) | (refine wp_append_lies _ _ _ 118 (by rfl) 0 87 i0 (.agg z128) 128 128 Tryd.underlying118 HI0.out.1 HI0.out.2.1 HI0.out.2.2.1 HI0.out.2.2.2 rfl (by decide) (.slice a (C i).length c) (C i).length (flatT (C i)) (by rfl) (by rw [← HVi.out]; exact (HD2.out.below (al hb4 _)).cache.rows i) ⟨w4.heap.size, 0, none⟩ 1 1 X (by rfl) (by rw [HXl.out]) (World.news_of_block (heap_alloc_new w4 _)) HX1.out (by decide) (by simp only [maxLen]; omega) (by omega) (Nat.zero_le _) _ rfl ?_; intro g5 cap5 w5 hown5 hg5 hat5 hlt5) | (obtain ⟨w6, hr6, hm6, hg6⟩ := World.ownsMap.update (World.ownsMap.kept (row := (Value.slice a (C i).length c).ownBlock) (World.ownsMap.alloc (World.ownsMap.kept (row := none) HDm.out.1 (gr_below (World.grownBy.refl w2 none) hb4) (by simp)) (.cells X.toArray 87)) hg5 (by have := (HD2.out.apartV i).2.2; rw [HVi.out] at this; exact fun e => this e.symm)) keyI Tryd.underlying68 (by simp only [maxLen]; omega) (kI_of (i := i) (by have := HD2.out.most; have := HI.out; omega)) (show selfR (.slice (some ⟨g5, 0, none⟩) ((C i).length + 1) cap5) = some (.held _, []) from rfl); refine wp_mapUp 68 _ _ _ (by rfl) w6 (by exact hr6) ?_)
      refine hK.out _ _ (by first | exact hpm | exact (hb4.cell (p := ⟨p, 1, none⟩) hpl).trans hpm | exact ((al hb4 _).cell (p := ⟨p, 1, none⟩) hpl).trans hpm | exact hg5.cell (((al hb4 _).cell (p := ⟨p, 1, none⟩) hpl).trans hpm) (by simpa using hvne2.symm) | exact hg6.cell (hg5.cell (((al hb4 _).cell (p := ⟨p, 1, none⟩) hpl).trans hpm) (by simpa using hvne2.symm)) (by simpa using hmne.symm)) ?_
      clear hK K
      intro hHeld2
      clear hHeld
      have hHeld := hHeld2
      clear hHeld2
      try simp only [Act.put, List.setIfInBounds_toArray, List.set_cons_zero, List.set_cons_succ]
      refine run_at (i := 15) rfl (by kernel_rfl) (by rfl) (fun K hK => ?_)
      simp only [List.getElem_toArray, List.getElem_cons_zero, List.getElem_cons_succ]
      first | (go_at_call 76; refine Calls.mono (HTX.out _ (Below.refl _ _).drew) ?_; rintro e w4 ⟨rfl, hb4'⟩; have hb4 : Below w2.heap.size w2 w4 := below_next (Below.refl _ _).drew hb4') | (refine wp_bs _ (by rfl) X (by rfl) HXl.out ?_) | (refine wp_append_lies _ _ _ 118 (by rfl) 0 87 i0 (.agg z128) 128 128 Tryd.underlying118 HI0.out.1 HI0.out.2.1 HI0.out.2.2.1 HI0.out.2.2.2 rfl (by decide) (.slice a (C i).length c) (C i).length (flatT (C i)) (by rfl) (by rw [← HVi.out]; exact (HD2.out.below (al hb4 _)).cache.rows i) ⟨w4.heap.size, 0, none⟩ 1 1 X (by rfl) (by rw [HXl.out]) (World.news_of_block (heap_alloc_new w4 _)) HX1.out (by decide) (by simp only [maxLen]; omega) (by omega) (Nat.zero_le _) _ rfl ?_; intro g5 cap5 w5 hown5 hg5 hat5 hlt5) | (obtain ⟨w6, hr6, hm6, hg6⟩ := World.ownsMap.update (World.ownsMap.kept (row := (Value.slice a (C i).length c).ownBlock) (World.ownsMap.alloc (World.ownsMap.kept (row := none) HDm.out.1 (gr_below (World.grownBy.refl w2 none) hb4) (by simp)) (.cells X.toArray 87)) hg5 (by have := (HD2.out.apartV i).2.2; rw [HVi.out] at this; exact fun e => this e.symm)) keyI Tryd.underlying68 (by simp only [maxLen]; omega) (kI_of (i := i) (by have := HD2.out.most; have := HI.out; omega)) (show selfR (.slice (some ⟨g5, 0, none⟩) ((C i).length + 1) cap5) = some (.held _, []) from rfl); refine wp_mapUp 68 _ _ _ (by rfl) w6 (by exact hr6) ?_)
      refine hK.out _ _ (by first | exact hpm | exact (hb4.cell (p := ⟨p, 1, none⟩) hpl).trans hpm | exact ((al hb4 _).cell (p := ⟨p, 1, none⟩) hpl).trans hpm | exact hg5.cell (((al hb4 _).cell (p := ⟨p, 1, none⟩) hpl).trans hpm) (by simpa using hvne2.symm) | exact hg6.cell (hg5.cell (((al hb4 _).cell (p := ⟨p, 1, none⟩) hpl).trans hpm) (by simpa using hvne2.symm)) (by simpa using hmne.symm)) ?_
      clear hK K
      intro hHeld2
      clear hHeld
      have hHeld := hHeld2
      clear hHeld2
      try simp only [Act.put, List.setIfInBounds_toArray, List.set_cons_zero, List.set_cons_succ]
      refine wpAnyH_done (by kernel_rfl) ?_ _
      refine NoPanic.normal ?_
    rotate_left 1
    refine AllReadyH.cons (o := _) rfl (fun K hK => ?_) AllReadyH.nil
    focus
      rw [if_pos (by rfl)]
      simp only [List.getElem_toArray, List.getElem_cons_zero, List.getElem_cons_succ]
      first | (go_at_call 76; refine Calls.mono (HTX.out _ (Below.refl _ _).drew) ?_; rintro e w4 ⟨rfl, hb4'⟩; have hb4 : Below w2.heap.size w2 w4 := below_next (Below.refl _ _).drew hb4') | (refine wp_bs _ (by rfl) X (by rfl) HXl.out ?_) | (refine wp_append_lies _ _ _ 118 (by rfl) 0 87 i0 (.agg z128) 128 128 Tryd.underlying118 HI0.out.1 HI0.out.2.1 HI0.out.2.2.1 HI0.out.2.2.2 rfl (by decide) (.slice a (C i).length c) (C i).length (flatT (C i)) (by rfl) (by rw [← HVi.out]; exact (HD2.out.below (al hb4 _)).cache.rows i) ⟨w4.heap.size, 0, none⟩ 1 1 X (by rfl) (by rw [HXl.out]) (World.news_of_block (heap_alloc_new w4 _)) HX1.out (by decide) (by simp only [maxLen]; omega) (by omega) (Nat.zero_le _) _ rfl ?_; intro g5 cap5 w5 hown5 hg5 hat5 hlt5) | (obtain ⟨w6, hr6, hm6, hg6⟩ := World.ownsMap.update (World.ownsMap.kept (row := (Value.slice a (C i).length c).ownBlock) (World.ownsMap.alloc (World.ownsMap.kept (row := none) HDm.out.1 (gr_below (World.grownBy.refl w2 none) hb4) (by simp)) (.cells X.toArray 87)) hg5 (by have := (HD2.out.apartV i).2.2; rw [HVi.out] at this; exact fun e => this e.symm)) keyI Tryd.underlying68 (by simp only [maxLen]; omega) (kI_of (i := i) (by have := HD2.out.most; have := HI.out; omega)) (show selfR (.slice (some ⟨g5, 0, none⟩) ((C i).length + 1) cap5) = some (.held _, []) from rfl); refine wp_mapUp 68 _ _ _ (by rfl) w6 (by exact hr6) ?_)
      refine hK.out _ _ (by first | exact hpm | exact (hb4.cell (p := ⟨p, 1, none⟩) hpl).trans hpm | exact ((al hb4 _).cell (p := ⟨p, 1, none⟩) hpl).trans hpm | exact hg5.cell (((al hb4 _).cell (p := ⟨p, 1, none⟩) hpl).trans hpm) (by simpa using hvne2.symm) | exact hg6.cell (hg5.cell (((al hb4 _).cell (p := ⟨p, 1, none⟩) hpl).trans hpm) (by simpa using hvne2.symm)) (by simpa using hmne.symm)) ?_
      clear hK K
      intro hHeld2
      clear hHeld
      have hHeld := hHeld2
      clear hHeld2
      try simp only [Act.put, List.setIfInBounds_toArray, List.set_cons_zero, List.set_cons_succ]
      refine val_at (i := 10) 32 (v := .slice a (C i).length c) rfl rfl (by kernel_rfl) (by rfl) ?_ ?_ ?_
      · (refine exec_lookup (by rfl) ?_; exact HLK2.out _ (al hb4 _))
      · (first | exact hpm | exact (hb4.cell (p := ⟨p, 1, none⟩) hpl).trans hpm | exact ((al hb4 _).cell (p := ⟨p, 1, none⟩) hpl).trans hpm | exact hg5.cell (((al hb4 _).cell (p := ⟨p, 1, none⟩) hpl).trans hpm) (by simpa using hvne2.symm) | exact hg6.cell (hg5.cell (((al hb4 _).cell (p := ⟨p, 1, none⟩) hpl).trans hpm) (by simpa using hvne2.symm)) (by simpa using hmne.symm))
      intro hHeld2
      clear hHeld
      have hHeld := hHeld2
      clear hHeld2
      simp only [Act.put, List.setIfInBounds_toArray, List.set_cons_zero, List.set_cons_succ]
      refine run_at (i := 14) rfl (by kernel_rfl) (by rfl) (fun K hK => ?_)
      simp only [List.getElem_toArray, List.getElem_cons_zero, List.getElem_cons_succ]
      first | (go_at_call 76; refine Calls.mono (HTX.out _ (Below.refl _ _).drew) ?_; rintro e w4 ⟨rfl, hb4'⟩; have hb4 : Below w2.heap.size w2 w4 := below_next (Below.refl _ _).drew hb4') | (refine wp_bs _ (by rfl) X (by rfl) HXl.out ?_) | (refine wp_append_lies _ _ _ 118 (by rfl) 0 87 i0 (.agg z128) 128 128 Tryd.underlying118 HI0.out.1 HI0.out.2.1 HI0.out.2.2.1 HI0.out.2.2.2 rfl (by decide) (.slice a (C i).length c) (C i).length (flatT (C i)) (by rfl) (by rw [← HVi.out]; exact (HD2.out.below (al hb4 _)).cache.rows i) ⟨w4.heap.size, 0, none⟩ 1 1 X (by rfl) (by rw [HXl.out]) (World.news_of_block (heap_alloc_new w4 _)) HX1.out (by decide) (by simp only [maxLen]; omega) (by omega) (Nat.zero_le _) _ rfl ?_; intro g5 cap5 w5 hown5 hg5 hat5 hlt5) | (obtain ⟨w6, hr6, hm6, hg6⟩ := World.ownsMap.update (World.ownsMap.kept (row := (Value.slice a (C i).length c).ownBlock) (World.ownsMap.alloc (World.ownsMap.kept (row := none) HDm.out.1 (gr_below (World.grownBy.refl w2 none) hb4) (by simp)) (.cells X.toArray 87)) hg5 (by have := (HD2.out.apartV i).2.2; rw [HVi.out] at this; exact fun e => this e.symm)) keyI Tryd.underlying68 (by simp only [maxLen]; omega) (kI_of (i := i) (by have := HD2.out.most; have := HI.out; omega)) (show selfR (.slice (some ⟨g5, 0, none⟩) ((C i).length + 1) cap5) = some (.held _, []) from rfl); refine wp_mapUp 68 _ _ _ (by rfl) w6 (by exact hr6) ?_)
      refine hK.out _ _ (by first | exact hpm | exact (hb4.cell (p := ⟨p, 1, none⟩) hpl).trans hpm | exact ((al hb4 _).cell (p := ⟨p, 1, none⟩) hpl).trans hpm | exact hg5.cell (((al hb4 _).cell (p := ⟨p, 1, none⟩) hpl).trans hpm) (by simpa using hvne2.symm) | exact hg6.cell (hg5.cell (((al hb4 _).cell (p := ⟨p, 1, none⟩) hpl).trans hpm) (by simpa using hvne2.symm)) (by simpa using hmne.symm)) ?_
      clear hK K
      intro hHeld2
      clear hHeld
      have hHeld := hHeld2
      clear hHeld2
      try simp only [Act.put, List.setIfInBounds_toArray, List.set_cons_zero, List.set_cons_succ]
      refine run_at (i := 15) rfl (by kernel_rfl) (by rfl) (fun K hK => ?_)
      simp only [List.getElem_toArray, List.getElem_cons_zero, List.getElem_cons_succ]
      first | (go_at_call 76; refine Calls.mono (HTX.out _ (Below.refl _ _).drew) ?_; rintro e w4 ⟨rfl, hb4'⟩; have hb4 : Below w2.heap.size w2 w4 := below_next (Below.refl _ _).drew hb4') | (refine wp_bs _ (by rfl) X (by rfl) HXl.out ?_) | (refine wp_append_lies _ _ _ 118 (by rfl) 0 87 i0 (.agg z128) 128 128 Tryd.underlying118 HI0.out.1 HI0.out.2.1 HI0.out.2.2.1 HI0.out.2.2.2 rfl (by decide) (.slice a (C i).length c) (C i).length (flatT (C i)) (by rfl) (by rw [← HVi.out]; exact (HD2.out.below (al hb4 _)).cache.rows i) ⟨w4.heap.size, 0, none⟩ 1 1 X (by rfl) (by rw [HXl.out]) (World.news_of_block (heap_alloc_new w4 _)) HX1.out (by decide) (by simp only [maxLen]; omega) (by omega) (Nat.zero_le _) _ rfl ?_; intro g5 cap5 w5 hown5 hg5 hat5 hlt5) | (obtain ⟨w6, hr6, hm6, hg6⟩ := World.ownsMap.update (World.ownsMap.kept (row := (Value.slice a (C i).length c).ownBlock) (World.ownsMap.alloc (World.ownsMap.kept (row := none) HDm.out.1 (gr_below (World.grownBy.refl w2 none) hb4) (by simp)) (.cells X.toArray 87)) hg5 (by have := (HD2.out.apartV i).2.2; rw [HVi.out] at this; exact fun e => this e.symm)) keyI Tryd.underlying68 (by simp only [maxLen]; omega) (kI_of (i := i) (by have := HD2.out.most; have := HI.out; omega)) (show selfR (.slice (some ⟨g5, 0, none⟩) ((C i).length + 1) cap5) = some (.held _, []) from rfl); refine wp_mapUp 68 _ _ _ (by rfl) w6 (by exact hr6) ?_)
      refine hK.out _ _ (by first | exact hpm | exact (hb4.cell (p := ⟨p, 1, none⟩) hpl).trans hpm | exact ((al hb4 _).cell (p := ⟨p, 1, none⟩) hpl).trans hpm | exact hg5.cell (((al hb4 _).cell (p := ⟨p, 1, none⟩) hpl).trans hpm) (by simpa using hvne2.symm) | exact hg6.cell (hg5.cell (((al hb4 _).cell (p := ⟨p, 1, none⟩) hpl).trans hpm) (by simpa using hvne2.symm)) (by simpa using hmne.symm)) ?_
      clear hK K
      intro hHeld2
      clear hHeld
      have hHeld := hHeld2
      clear hHeld2
      try simp only [Act.put, List.setIfInBounds_toArray, List.set_cons_zero, List.set_cons_succ]
      refine wpAnyH_done (by kernel_rfl) ?_ _
      refine NoPanic.normal ?_
  all_goals
    go_wp2
    go_ret
    exact ⟨rfl, write_post HD2.out HDm.out HVi.out HI.out hn (HXe.out ▸ hown5) hl hb4 hg5 hat5 hlt5 hm6 hg6 hg2⟩
end Go.Proofs.YtibepnilhmbpeaaDoor
namespace Go.Proofs.YtibepnilhmbpeaaDoor
set_option linter.unusedVariables false
set_option linter.unusedSimpArgs false
open Go.RowKit Go.Maps
theorem fit_empty (clock : Nat) : WideElems.Fit Tryd.prog 3 selfR #[] clock := ⟨Nat.zero_le _, by simp [MapKept.Stamped], fun x hx => by simp at hx⟩
theorem cache_none {w : World} {m N : Nat} {cl : Nat} (h : w.heap[m]? = some (.map #[] cl)) (n : Nat) : CacheAt w m N n (fun _ => []) (fun _ => nilS) := by
  refine ⟨⟨.map [], ⟨#[], cl, h, fit_empty cl, Nat.zero_le _, rfl⟩, fun i hi => absurd rfl hi, fun kl hk => ?_⟩, fun _ _ => rfl, fun _ => World.ownsRow_nil _ _ _ _, fun _ t ht => ?_, fun i j b hb => ?_, fun _ => Nat.zero_le _, fun i hi => absurd rfl hi⟩
  · simp [Maps.has] at hk
  · exact absurd ht (List.not_mem_nil)
  · simp [nilS, Value.ownBlock] at hb
theorem presS_none (s : Sec) : presS s [] = s := by simp [presS, afterS]
theorem presS_fit {s : Sec} (h : s.fit) {vs : List (List UInt8)} (hv : ∀ t ∈ vs, t.length = 128) : (presS s vs).fit := by
  unfold presS afterS
  split
  · exact h
  · split
    · rename_i h1 h2
      refine ⟨hv _ ?_, fun e => by cases e⟩
      rw [List.getD_eq_getElem?_getD, List.getElem?_eq_getElem (by omega), Option.getD_some]
      exact List.getElem_mem _
    · exact Sec.bad_fit
/-- the sectors, where those that are not left have come to be what they are at present -/
def flP (S : List Sec) (C : Nat → List (List UInt8)) (left : Lit → Bool) : List Sec := S.mapIdx fun k s => if left (kI k) then s else presS s (C k)
def flushed (S : List Sec) (C : Nat → List (List UInt8)) : List Sec := S.mapIdx fun k s => presS s (C k)
theorem flP_len (S : List Sec) (C : Nat → List (List UInt8)) (left : Lit → Bool) : (flP S C left).length = S.length := by simp [flP]
theorem flP_start (S : List Sec) (C : Nat → List (List UInt8)) (left : Lit → Bool) (h : ∀ k, k < S.length → C k ≠ [] → left (kI k) = true) : flP S C left = S := by
  apply List.ext_getElem (flP_len S C left)
  intro k h1 h2
  simp only [flP, List.getElem_mapIdx]
  by_cases hc : C k = []
  · rw [hc, presS_none]; split <;> rfl
  · rw [if_pos (h k h2 hc)]
theorem flP_end (S : List Sec) (C : Nat → List (List UInt8)) (left : Lit → Bool) (h : ∀ kl, left kl = false) : flP S C left = flushed S C := by
  unfold flP flushed
  simp only [h, Bool.false_eq_true, if_false]
theorem flP_at {S : List Sec} {C : Nat → List (List UInt8)} {left : Lit → Bool} {i : Nat} (hi : i < (flP S C left).length) (hl : left (kI i) = true) : (flP S C left)[i] = S[i]'(by rw [flP_len] at hi; exact hi) := by
  simp only [flP, List.getElem_mapIdx, hl, if_true]
theorem flP_step (S : List Sec) (C : Nat → List (List UInt8)) (left : Lit → Bool) (i : Nat) (hi : i < (flP S C left).length) (hN : S.length ≤ 65536) (hl : left (kI i) = true) : (flP S C left).set i (presS (flP S C left)[i] (C i)) = flP S C (fun z => left z && !z.sameKey (kI i)) := by
  have hi' : i < S.length := by rw [flP_len] at hi; exact hi
  apply List.ext_getElem (by simp [flP])
  intro k h1 h2
  have hk : k < S.length := by rw [flP_len] at h2; exact h2
  rw [List.getElem_set]
  by_cases e : i = k
  · subst e
    rw [if_pos rfl, flP_at hi hl]
    simp only [flP, List.getElem_mapIdx, WideAt.sameKey_self (kI_key (show i ≤ 65536 by omega)), Bool.not_true, Bool.and_false, Bool.false_eq_true, if_false]
  · rw [if_neg e]
    have hs : (kI k).sameKey (kI i) = false := by
      cases h : (kI k).sameKey (kI i)
      · rfl
      · exact absurd (WideAt.sameKey_eq h) (kI_ne (Ne.symm e))
    simp only [flP, List.getElem_mapIdx, hs, Bool.not_false, Bool.and_true]
theorem run_clear {w : World} {m : Nat} {es : Array MapEntry} {cl : Nat} (h : w.heap[m]? = some (.map es cl)) (ty : TypeId) : (Builtin.clear_ #[68] ty #[.map (some m)]).run Tryd.prog w = .ok (.tuple #[]) (ChangeMaps.setBlock w m (.map #[] cl)) := by
  simp [Builtin.clear_, run_underlying Tryd.underlying68, MapKept.run_getObj_map h, MapKept.run_setObj_map _ h, Result.andThen, ChangeMaps.setBlock]
/-- a sector of the disk stored -/
theorem DK.setSec {w : World} {p g m : Nat} {S : List Sec} {C : Nat → List (List UInt8)} {V : Nat → Value} {off : Bool} {fuse : Int} {n : Nat} (h : DK w p g m S C V off fuse n) (k : Nat) (hk : k < S.length) (y : Sec) (hy : y.fit) : DK (w.setCells g (k * 129) y.cells) p g m (S.set k y) C V off fuse n := by
  have hl : (S.set k y).length = S.length := by simp
  have hne := h.ne
  have hok := fit_ok h.fit
  have hc : Chg (fun b => b = g) w (w.setCells g (k * 129) y.cells) := Chg.of_grown (setCells_grown g y.cells (k * 129) w) (fun b hb => by cases hb; rfl)
  refine ⟨fun s hs => ?_, by rw [hl]; exact h.one, by rw [hl]; exact h.most, ?_, ?_, ?_, h.few, h.fu⟩
  · rcases List.mem_or_eq_of_mem_set hs with h1 | rfl
    · exact h.fit s h1
    · exact hy
  · rw [hl]; exact (hc.block p (h.lt (.inl rfl)) hne.1).trans h.hp
  · have h1 : k * 129 + y.cells.length ≤ (secs S).length := by
      rw [secs_len hok, Sec.cells_len hy.1]
      have : (k + 1) * 129 ≤ S.length * 129 := Nat.mul_le_mul_right _ hk
      omega
    rw [← secs_set hok k hk y hy.1]
    exact heap_setCells g _ y.cells (k * 129) (secs S) w h.hg h1
  · rw [hl]; exact h.cache.kept hc (fun e => hne.2.2 e.symm) (fun i b hb e => by subst e; exact (h.apartV i).2.1 hb)
/-- the cache emptied -/
theorem DK.cleared {w w' : World} {p g m : Nat} {S : List Sec} {C : Nat → List (List UInt8)} {V : Nat → Value} {off : Bool} {fuse : Int} {n : Nat} (h : DK w p g m S C V off fuse n) {cl : Nat} (hm : w'.heap[m]? = some (.map #[] cl)) (hc : Chg (fun b => b = m) w w') : DK w' p g m S (fun _ => []) (fun _ => nilS) off fuse 0 := by
  have hne := h.ne
  exact ⟨h.fit, h.one, h.most, (hc.block p (h.lt (.inl rfl)) hne.2.1).trans h.hp, (hc.block g (h.lt (.inr (.inl rfl))) hne.2.2).trans h.hg, cache_none hm 0, by decide, h.fu⟩
theorem setBlock_chg {w : World} {m : Nat} {es : Array MapEntry} {cl : Nat} (h : w.heap[m]? = some (.map es cl)) : (ChangeMaps.setBlock w m (.map #[] cl)).heap[m]? = some (.map #[] cl) ∧ Chg (fun b => b = m) w (ChangeMaps.setBlock w m (.map #[] cl)) :=
  ⟨ChangeMaps.heap_setBlock_same h _, ⟨rfl, rfl, rfl, by simp [ChangeMaps.setBlock], fun k _ hk => ChangeMaps.heap_setBlock_other h _ hk⟩⟩
end Go.Proofs.YtibepnilhmbpeaaDoor
namespace Go.Proofs.YtibepnilhmbpeaaDoor
set_option linter.unusedVariables false
set_option linter.unusedSimpArgs false
open Go.RowKit Go.Maps
set_option maxRecDepth 20000 in
set_option maxHeartbeats 400000 in
theorem flush_off (p g m : Nat) (S : List Sec) (C : Nat → List (List UInt8)) (V : Nat → Value) (off : Bool) (fuse : Int) (n : Nat) (w : World) (h : DK w p g m S C V off fuse n) (he : begE off fuse = 5) :
    Calls Tryd.prog 20 #[.pointer (some ⟨p, 0, none⟩)] w fun e w' => e = .returned (.int .i64 5) ∧ DK w' p g m S C V (begO off fuse) (begF off fuse) n ∧ w.grownBy w' (some p) := by
  have h0 : w.cell? ⟨p, 0, none⟩ = some (.slice (some ⟨g, 0, none⟩) S.length S.length) := by rw [cell_of_row _ _ 0 _ _ _ h.hp]; rfl
  have hpos : 0 < S.length := h.one
  have HBG : Hid _ := begin_t p _ _ off fuse w h.hp h.fu
  have HD : Hid _ := h
  clear h
  go_enter Tryd.func20, Tryd.ntmps20
  go_wp2_with (first
    | (go_at_call 42; refine (made_t p _ _ _ _ h0).mono ?_; rintro e w1 ⟨rfl, hq⟩; have hq := hq.symm; subst hq; rw [decide_eq_true hpos])
    | (go_at_call 43; refine Calls.mono HBG.out ?_; rintro e w2 ⟨rfl, hp2, hg2⟩; rw [he]))
  go_ret
  exact ⟨rfl, DK.begun HD.out hp2 hg2 (begF_le HD.out.fu), hg2⟩
set_option maxRecDepth 20000 in
set_option maxHeartbeats 800000 in
theorem flush_t (p g m : Nat) (S : List Sec) (C : Nat → List (List UInt8)) (V : Nat → Value) (off : Bool) (fuse : Int) (n : Nat) (w : World) (h : DK w p g m S C V off fuse n) (he : begE off fuse = 0) :
    Calls Tryd.prog 20 #[.pointer (some ⟨p, 0, none⟩)] w fun e w' => e = .returned (.int .i64 0) ∧ DK w' p g m (flushed S C) (fun _ => []) (fun _ => nilS) (begO off fuse) (begF off fuse) 0 ∧ Chg (fun b => b = p ∨ b = g ∨ b = m) w w' := by
  have h0 : w.cell? ⟨p, 0, none⟩ = some (.slice (some ⟨g, 0, none⟩) S.length S.length) := by rw [cell_of_row _ _ 0 _ _ _ h.hp]; rfl
  have hpos : 0 < S.length := h.one
  have HBG : Hid _ := begin_t p _ _ off fuse w h.hp h.fu
  have HD : Hid _ := h
  clear h
  go_enter Tryd.func20, Tryd.ntmps20
  go_wp2_with (first
    | (go_at_call 42; refine (made_t p _ _ _ _ h0).mono ?_; rintro e w1 ⟨rfl, hq⟩; have hq := hq.symm; subst hq; rw [decide_eq_true hpos])
    | (go_at_call 43; refine Calls.mono HBG.out ?_; rintro e w2 ⟨rfl, hp2, hg2⟩; rw [he]
       have hD2 : DK w2 p g m S C V (begO off fuse) (begF off fuse) n := DK.begun HD.out hp2 hg2 (begF_le HD.out.fu)
       obtain ⟨D, hDo, hDa, hDk⟩ := hD2.cache.own
       have hpm : w2.cell? ⟨p, 1, none⟩ = some (.map (some m)) := (by rw [cell_of_row _ _ 1 _ _ _ hp2]; rfl))
    | (at_range; refine wpList_range_own _ rfl _ 68 rfl 3 118 keyI Tryd.underlying68 selfR m n D rfl hDo ?_; intro w3 hrg3 hg3 hs3))
  go_frame
  obtain ⟨off2, ho2⟩ : ∃ o : Bool, o = begO off fuse := ⟨_, rfl⟩
  obtain ⟨fuse2, hf2⟩ : ∃ f : Int, f = begF off fuse := ⟨_, rfl⟩
  rw [← ho2, ← hf2] at hD2
  have HO2 : Hid _ := ho2
  have HF2 : Hid _ := hf2
  have hD3 : DK w3 p g m S C V off2 fuse2 n := hD2.kept (Chg.of_grown (F := fun _ => False) hg3 (fun b hb => by cases hb)) (fun _ _ hf => hf)
  have hlt2 : ∀ b, foot p g m V b → b < w2.heap.size := fun b hb => hD2.lt hb
  have hc3 : Chg (fun b => b = p ∨ b = g ∨ b = m) w w3 := (Chg.of_grown (F := fun b => b = p ∨ b = g ∨ b = m) hg2 (fun b hb => by cases hb; exact .inl rfl)).trans (Chg.of_grown (F := fun _ => False) hg3 (fun b hb => by cases hb)) (fun _ hf => hf.elim)
  have hs2 := hg2.size
  have hst : flP S C (Maps.has D) = S := flP_start S C _ (fun k hk hc => has_true_of_atKey (hDa k hc))
  obtain ⟨R, hR⟩ : ∃ R : Nat, R = w2.heap.size := ⟨_, rfl⟩
  rw [← hR] at hrg3 hlt2 ⊢
  have hRw : w.heap.size ≤ R := by omega
  have HDK : Hid _ := hDk
  have hmost := hD2.most
  have htxt := hD2.cache.txt
  have HTX : Hid _ := htxt
  clear ho2 hf2 hpm hp2 hDo hDa hDk hD2 hR hs3 htxt
  go_loopw [4] (fun _ wr => ∃ (left : Lit → Bool) (cnt : Nat), wr.ranges Tryd.prog 3 selfR m R n D left cnt ∧ DK wr p g m (flP S C left) C V off2 fuse2 n ∧ Chg (fun b => b = p ∨ b = g ∨ b = m) w wr) (fun _ wr => wr.rangeLeft m R)
  case atStart => exact ⟨_, _, hrg3, by rw [hst]; exact hD3, hc3⟩
  case round =>
    obtain ⟨left, cnt, hrg, hDw, hcw⟩ := hrel
    clear hrg3 hD3 hc3 hst
    go_wp2_with (first
      | (at_next; refine wpList_next_ranges _ rfl _ rfl 3 keyI selfR (Value.int .i64) (fun v : Value => v) (fun key kl hkey => by obtain ⟨x, rfl, _⟩ := Maps.keyOf_int_inv Tryd.underlying3 hkey; exact ⟨x, rfl⟩) (fun v y _ => ⟨v, rfl⟩) m R n D left cnt rfl hrg ?_ ?_))
    · intro _ hl0
      rw [flP_end S C left hl0] at hDw
      obtain ⟨es, cl, hes⟩ := hDw.cache.map_at
      have hclr := run_clear hes
      obtain ⟨hm4, hc4⟩ := setBlock_chg hes
      have hpm : wr.cell? ⟨p, 1, none⟩ = some (.map (some m)) := by rw [cell_of_row _ _ 1 _ _ _ hDw.hp]; rfl
      obtain ⟨w4, hw4⟩ : ∃ w4 : World, w4 = ChangeMaps.setBlock wr m (.map #[] cl) := ⟨_, rfl⟩
      rw [← hw4] at hm4 hc4
      have hclr' : ∀ ty, (Builtin.clear_ #[68] ty #[.map (some m)]).run Tryd.prog wr = .ok (.tuple #[]) w4 := by rw [hw4]; exact hclr
      clear hw4 hclr hes
      go_wp2
      go_ret
      refine ⟨rfl, ?_, ?_⟩
      · rw [← HO2.out, ← HF2.out]; exact hDw.cleared hm4 hc4
      · exact hcw.trans hc4 (fun k hk => .inl (.inr (.inr hk)))
    · intro x c kl yd yp w4 cnt4 hkey hlk hv hat hrg4 hltc hg4 hs4 hen
      obtain ⟨i, hiN, hkl, hci⟩ := HDK.out kl (has_true_of_atKey hat)
      have hxi : x = (i : Int) := by
        obtain ⟨x', e1, e2, _⟩ := Maps.keyOf_int_inv Tryd.underlying3 hkey
        cases e1
        rw [e2] at hkl
        exact (Lit.int.inj hkl).2
      subst hxi
      subst hkl
      have hD4 : DK w4 p g m (flP S C left) C V off2 fuse2 n := hDw.kept (Chg.of_grown (F := fun b => b = R) hg4 (fun b hb => by cases hb; rfl)) (fun b hb e => by subst e; exact Nat.lt_irrefl _ (hlt2 b hb))
      have hlen := flP_len S C left
      have hi' : i < (flP S C left).length := by rw [hlen]; exact hiN
      obtain ⟨a4, c4, hV4, hL4⟩ := hD4.looks i hi'
      obtain ⟨Y, hY⟩ : ∃ Y : List Value, Y = (presS (flP S C left)[i] (C i)).cells := ⟨_, rfl⟩
      have hfit : (presS (flP S C left)[i] (C i)).fit := presS_fit (hD4.fit _ (List.getElem_mem hi')) (hD4.cache.txt i)
      have HYl : Hid (Y.length = 129) := by unfold Hid; rw [hY]; exact Sec.cells_len hfit.1
      have HYs : Hid (Y.toArray.size = 129) := by unfold Hid; rw [List.size_toArray]; exact HYl.out
      have HY1 : Hid (∀ v ∈ Y, v.oneCell' = true) := by unfold Hid; rw [hY]; exact secV_one _ _
      have HIs : Hid ((Tryd.prog.info? 89).map (·.size) = some 129) := (zero_of_info info_sect).2
      have HPR : Hid (∀ u, Below w4.heap.size w4 u → Calls Tryd.prog 44 #[.pointer (some ⟨p, 0, none⟩), .int .i64 (i : Int)] u fun e w' => e = .returned (.agg Y.toArray) ∧ Below u.heap.size u w') := by
        intro u hu
        rw [hY]
        have hDu := hD4.below hu
        exact present_t p g m i _ a4 c4 (C i) u hDu.secAt hi' (by rw [cell_of_row _ _ 1 _ _ _ hDu.hp]; rfl) ⟨fun v hv => hL4.run v (below_next hu hv), hL4.len, hL4.few, hL4.lie.below hu⟩
      have hp0 : w4.cell? ⟨p, 0, none⟩ = some (.slice (some ⟨g, 0, none⟩) S.length S.length) := by rw [cell_of_row _ _ 0 _ _ _ hD4.hp, hlen]; rfl
      have hpg := hD4.ne.1
      have hi0 : (0 : Int) ≤ (i : Int) := by omega
      have hi1 : (i : Int) < (S.length : Int) := by omega
      have hpl : p < w4.heap.size := World.block_lt_of_cell? w4 _ hp0
      have HD4 : Hid _ := hD4
      have HY : Hid _ := hY
      have HFit : Hid _ := hfit
      clear hY hL4 hV4 hfit hD4
      go_wp2_with fail
      refine wp_region_noPanic ?_
      refine wp_region_held_drew (S := (fun u => u.cell? ⟨p, 0, none⟩ = some (.slice (some ⟨g, 0, none⟩) S.length S.length))) (by kernel_rfl) (by first | exact hp0 | exact (hb5.cell (p := ⟨p, 0, none⟩) hpl).trans hp0 | exact (setCells_grown g _ _ _).cell ((hb5.cell (p := ⟨p, 0, none⟩) hpl).trans hp0) (by simpa using hpg)) (fun hHeld => ?_)
      refine take_at (i := 0) 22 (v := ?_) rfl rfl (by kernel_rfl) (by kernel_rfl) (by kernel_rfl) (fun _ _ _ h => h) (by rfl) ?_ hHeld ?_
      rotate_left
      · (intro w hSw; (try dsimp only at hSw); go_simp; try with_reducible rfl)
      simp only [Act.put, List.setIfInBounds_toArray, List.set_cons_zero, List.set_cons_succ]
      refine take_at (i := 1) 23 (v := ?_) rfl rfl (by kernel_rfl) (by kernel_rfl) (by kernel_rfl) (fun _ _ _ h => h) (by rfl) ?_ hHeld ?_
      rotate_left
      · (intro w hSw; (try dsimp only at hSw); go_simp; try with_reducible rfl)
      simp only [Act.put, List.setIfInBounds_toArray, List.set_cons_zero, List.set_cons_succ]
      refine take_at (i := 2) 24 (v := ?_) rfl rfl (by kernel_rfl) (by kernel_rfl) (by kernel_rfl) (fun _ _ _ h => h) (by rfl) ?_ hHeld ?_
      rotate_left
      · (intro w hSw; (try dsimp only at hSw); go_simp; try with_reducible rfl)
      simp only [Act.put, List.setIfInBounds_toArray, List.set_cons_zero, List.set_cons_succ]
      refine take_at (i := 3) 25 (v := ?_) rfl rfl (by kernel_rfl) (by kernel_rfl) (by kernel_rfl) (fun _ _ _ h => h) (by rfl) ?_ hHeld ?_
      rotate_left
      · (intro w hSw; (try dsimp only at hSw); go_simp; try with_reducible rfl)
      simp only [Act.put, List.setIfInBounds_toArray, List.set_cons_zero, List.set_cons_succ]
      refine take_at (i := 4) 26 (v := ?_) rfl rfl (by kernel_rfl) (by kernel_rfl) (by kernel_rfl) (fun _ _ _ h => h) (by rfl) ?_ hHeld ?_
      rotate_left
      · (intro w hSw; (try dsimp only at hSw); go_simp; try with_reducible rfl)
      simp only [Act.put, List.setIfInBounds_toArray, List.set_cons_zero, List.set_cons_succ]
      refine take_at (i := 5) 27 (v := ?_) rfl rfl (by kernel_rfl) (by kernel_rfl) (by kernel_rfl) (fun _ _ _ h => h) (by rfl) ?_ hHeld ?_
      rotate_left
      · (intro w hSw; (try dsimp only at hSw); go_simp; try with_reducible rfl)
      simp only [Act.put, List.setIfInBounds_toArray, List.set_cons_zero, List.set_cons_succ]
      refine take_at (i := 6) 28 (v := ?_) rfl rfl (by kernel_rfl) (by kernel_rfl) (by kernel_rfl) (fun _ _ _ h => h) (by rfl) ?_ hHeld ?_
      rotate_left
      · (intro w hSw; (try dsimp only at hSw); go_simp; try with_reducible rfl)
      simp only [Act.put, List.setIfInBounds_toArray, List.set_cons_zero, List.set_cons_succ]
      refine run_at (i := 7) rfl (by kernel_rfl) (by rfl) (fun K hK => ?_)
      simp only [List.getElem_toArray, List.getElem_cons_zero, List.getElem_cons_succ]
      go_simp
      first | (go_at_call 44; refine Calls.mono (HPR.out _ (Below.refl _ _).drew) ?_; rintro e w5 ⟨rfl, hb5'⟩; have hb5 : Below w4.heap.size w4 w5 := below_next (Below.refl _ _).drew hb5')
      go_wp2_with fail
      refine hK.out _ _ (by first | exact hp0 | exact (hb5.cell (p := ⟨p, 0, none⟩) hpl).trans hp0 | exact (setCells_grown g _ _ _).cell ((hb5.cell (p := ⟨p, 0, none⟩) hpl).trans hp0) (by simpa using hpg)) ?_
      clear hK K
      intro hHeld2
      clear hHeld
      have hHeld := hHeld2
      clear hHeld2
      try simp only [Act.put, List.setIfInBounds_toArray, List.set_cons_zero, List.set_cons_succ]
      refine take_at (i := 8) 30 (v := ?_) rfl rfl (by kernel_rfl) (by kernel_rfl) (by kernel_rfl) (fun _ _ _ h => h) (by rfl) ?_ hHeld ?_
      rotate_left
      · (intro w hSw; (try dsimp only at hSw); go_simp; try with_reducible rfl)
      simp only [Act.put, List.setIfInBounds_toArray, List.set_cons_zero, List.set_cons_succ]
      refine run_at (i := 9) rfl (by kernel_rfl) (by rfl) (fun K hK => ?_)
      simp only [List.getElem_toArray, List.getElem_cons_zero, List.getElem_cons_succ]
      refine wp_store_mid 89 _ _ rfl g (i * 129) Y.toArray rfl rfl (by rw [HYs.out]; exact secs_there (fit_ok (DK.below HD4.out hb5).fit) (DK.below HD4.out hb5).hg i hi') (by rw [HIs.out, HYs.out]) (all_oneCell_toArray HY1.out) ?_
      refine hK.out _ _ (by first | exact hp0 | exact (hb5.cell (p := ⟨p, 0, none⟩) hpl).trans hp0 | exact (setCells_grown g _ _ _).cell ((hb5.cell (p := ⟨p, 0, none⟩) hpl).trans hp0) (by simpa using hpg)) ?_
      clear hK K
      intro hHeld2
      clear hHeld
      have hHeld := hHeld2
      clear hHeld2
      try simp only [Act.put, List.setIfInBounds_toArray, List.set_cons_zero, List.set_cons_succ]
      refine wpAnyH_done (by kernel_rfl) ?_ _
      refine NoPanic.normal ?_
      go_wp2
      go_roundw
      case rel =>
        have hD5 := DK.below HD4.out hb5
        have hD6 := hD5.setSec i hi' _ HFit.out
        rw [flP_step S C left i hi' hmost hlk, ← HY.out] at hD6
        have hRg : R ≠ g := by have := hlt2 g (.inr (.inl rfl)); omega
        have hmg : m ≠ g := fun e => hD5.ne.2.2 e.symm
        have hrg9 := (hrg4.kept (gr_below (World.grownBy.refl w4 none) hb5) (by simp) (by simp)).kept (setCells_grown g Y (i * 129) w5) (by simpa using hmg) (by simpa using hRg)
        first | refine ⟨_, cnt4, hrg9, hD6, ?_⟩ | refine ⟨_, ⟨cnt4, hrg9⟩, hD6, ?_⟩
        refine ((hcw.trans (Chg.of_grown (F := fun b => b = R) hg4 (fun b hb => by cases hb; rfl)) (fun k hk => .inr (by rw [hk]; exact hRw))).trans (Chg.of_below (F := fun _ => False) hb5) (fun _ hf => hf.elim)).trans (Chg.of_grown (F := fun b => b = g) (setCells_grown g Y (i * 129) w5) (fun b hb => by cases hb; rfl)) (fun k hk => .inl (.inr (.inl hk)))
      case measure =>
        have h6 := (hrg4.kept (gr_below (World.grownBy.refl w4 none) hb5) (by simp) (by simp)).kept (setCells_grown g Y (i * 129) w5) (by have := (DK.below HD4.out hb5).ne.2.2; simpa using this.symm) (by have := hlt2 g (.inr (.inl rfl)); simp; omega)
        rw [h6.left_eq, hrg.left_eq]
        exact hltc
end Go.Proofs.YtibepnilhmbpeaaDoor
namespace Go.Proofs.YtibepnilhmbpeaaDoor
set_option linter.unusedVariables false
set_option linter.unusedSimpArgs false
open Go.RowKit
set_option maxRecDepth 20000 in
theorem down_t (p : Nat) (a : Option Addr) (n c : Nat) (off : Bool) (w : World) (hn : 0 < n) (h0 : w.cell? ⟨p, 0, none⟩ = some (.slice a n c)) (h2 : w.cell? ⟨p, 2, none⟩ = some (.bool off)) : Calls Tryd.prog 34 #[.pointer (some ⟨p, 0, none⟩)] w fun e w' => e = .returned (.bool off) ∧ w' = w := by
  go_enter Tryd.func34, Tryd.ntmps34
  go_wp2_with (go_at_call 42; refine (made_t p a n c _ h0).mono ?_; rintro e w1 ⟨rfl, hq⟩; have hq := hq.symm; subst hq; rw [decide_eq_true hn])
  go_ret
  exact ⟨rfl, rfl⟩
end Go.Proofs.YtibepnilhmbpeaaDoor
