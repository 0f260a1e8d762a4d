import Derived.Test.YtgdkiejlggiakaaDBeg
import Derived.Test.YtgdkiejlggiakaaDImM
import Derived.Maps.OwnSet
import Derived.Deep.AppendLies
namespace Go.Proofs.Ytgdkiejlggiakaa
set_option linter.unusedVariables false
set_option linter.unusedSimpArgs false
open Go.RowKit Go.Maps
/-- nothing changed but the blocks that F names -/
structure Chg (F : Nat → Prop) (w w' : World) : Prop where
  os : w'.os = w.os
  tape : w'.tape = w.tape
  output : w'.output = w.output
  size : w.heap.size ≤ w'.heap.size
  block : ∀ k, k < w.heap.size → ¬ F k → w'.heap[k]? = w.heap[k]?
theorem Chg.of_grown {F : Nat → Prop} {w w' : World} {row : Option Nat} (h : w.grownBy w' row) (hF : ∀ b, row = some b → F b) : Chg F w w' :=
  ⟨h.os, h.tape, h.output, h.size, fun k hk hn => h.block k hk (fun e => hn (hF k e.symm))⟩
theorem Chg.of_below {F : Nat → Prop} {w w' : World} (h : Below w.heap.size w w') : Chg F w w' := ⟨h.os, h.tape, h.output, h.size, fun k hk _ => h.block k hk⟩
theorem Chg.refl (F : Nat → Prop) (w : World) : Chg F w w := Chg.of_below (Below.refl _ _)
/-- what changes later may be new -/
theorem Chg.trans {F G : Nat → Prop} {a b c : World} (h : Chg F a b) (k : Chg G b c) (hG : ∀ i, G i → F i ∨ a.heap.size ≤ i) : Chg F a c := by
  refine ⟨k.os.trans h.os, k.tape.trans h.tape, k.output.trans h.output, Nat.le_trans h.size k.size, fun i hi hn => ?_⟩
  refine (k.block i (Nat.lt_of_lt_of_le hi h.size) (fun hg => ?_)).trans (h.block i hi hn)
  rcases hG i hg with h1 | h1
  · exact hn h1
  · omega
theorem Chg.below {F : Nat → Prop} {w w' : World} {B : Nat} (h : Chg F w w') (hF : ∀ i, F i → B ≤ i) (hB : B ≤ w.heap.size) : Below B w w' :=
  ⟨h.os, h.tape, h.output, h.size, fun k hk => h.block k (by omega) (fun hf => by have := hF k hf; omega)⟩
theorem Chg.mono {F G : Nat → Prop} {w w' : World} (h : Chg F w w') (hG : ∀ i, F i → G i) : Chg G w w' := ⟨h.os, h.tape, h.output, h.size, fun k hk hn => h.block k hk (fun hf => hn (hG k hf))⟩
def nilS : Value := .slice none 0 0
def selfR (v : Value) : Option (DataW Value × List MemPlace) := some (.held v, [])
theorem keyI : Keyed Try.prog 3 := int_keyed Try.underlying3
theorem zeroT (w : World) : (zeroValue 70).run Try.prog w = .ok (.slice none 0 0) w := by kernel_rfl
def kI (i : Nat) : Lit := .int .i64 (i : Int)
theorem kI_of {i : Nat} (h : i ≤ 65536) : keyOf Try.prog 3 (.int .i64 (i : Int)) = some (kI i) := keyOf_int_mk Try.underlying3 (a := (i : Int)) (by simp [Lit.wf, IntKind.min, IntKind.max, IntKind.signed, IntKind.bits]; omega)
theorem kI_ne {i j : Nat} (h : i ≠ j) : kI i ≠ kI j := by
  intro e
  unfold kI at e
  have := (Lit.int.inj e).2
  omega
theorem kI_key {i : Nat} (h : i ≤ 65536) : WideAt.IsKeyLit (kI i) := keyI.key (kI_of h)
def flatT (vs : List (List UInt8)) : List Value := vs.flatMap bv
def upd {α : Type} (C : Nat → α) (i : Nat) (x : α) : Nat → α := fun j => if j = i then x else C j
theorem upd_same {α : Type} (C : Nat → α) (i : Nat) (x : α) : upd C i x i = x := by simp [upd]
theorem upd_other {α : Type} (C : Nat → α) {i j : Nat} (h : j ≠ i) (x : α) : upd C i x j = C j := by simp [upd, h]
/-- the cache in memory: C i: the versions of sector i, V i: their slice -/
structure CacheAt (w : World) (m N n : Nat) (C : Nat → List (List UInt8)) (V : Nat → Value) : Prop where
  own : ∃ D, w.ownsMap Try.prog 3 selfR m n D ∧ (∀ i, C i ≠ [] → ∀ z, D.atKey (kI i) z = .held (V i)) ∧ (∀ kl, Maps.has D kl = true → ∃ i, i < N ∧ kl = kI i ∧ C i ≠ [])
  nil : ∀ i, C i = [] → V i = nilS
  rows : ∀ i, w.ownsRow 0 59 128 (V i) (C i).length (flatT (C i))
  txt : ∀ i t, t ∈ C i → t.length = 128
  apart : ∀ i j b, (V i).ownBlock = some b → (V j).ownBlock = some b → i = j
  few : ∀ i, (C i).length ≤ n
  ins : ∀ i, C i ≠ [] → i < N
/-- the blocks of a disk -/
def foot (p g m : Nat) (V : Nat → Value) (b : Nat) : Prop := b = p ∨ b = g ∨ b = m ∨ ∃ i, (V i).ownBlock = some b
structure DK (w : World) (p g m : Nat) (S : List Sec) (C : Nat → List (List UInt8)) (V : Nat → Value) (off : Bool) (fuse : Int) (n : Nat) : Prop where
  fit : ∀ s ∈ S, s.fit
  one : 1 ≤ S.length
  most : S.length ≤ 65536
  hp : w.heap[p]? = some (.cells #[.slice (some ⟨g, 0, none⟩) S.length S.length, .map (some m), .bool off, .int .i64 fuse] 57 (0, 0))
  hg : w.heap[g]? = some (.cells (secs S).toArray 61 (0, 0))
  cache : CacheAt w m S.length n C V
  few : n ≤ 1099511627776
  fu : fuse ≤ 9223372036854775807
theorem flatT_len {vs : List (List UInt8)} (h : ∀ t ∈ vs, t.length = 128) : (flatT vs).length = vs.length * 128 := flat_len bv 128 vs (fun t ht => by rw [bv_length]; exact h t ht)
theorem CacheAt.map_at {w : World} {m N n : Nat} {C : Nat → List (List UInt8)} {V : Nat → Value} (h : CacheAt w m N n C V) : ∃ es cl, w.heap[m]? = some (.map es cl) := by
  obtain ⟨D, ⟨es, cl, h1, -⟩, -⟩ := h.own
  exact ⟨es, cl, h1⟩
theorem row_at {w : World} {v : Value} {n b : Nat} {xs : List Value} {e : TypeId} {s : Nat} (h : w.ownsRow 0 e s v n xs) (hb : v.ownBlock = some b) : ∃ cur, w.heap[b]? = some (.cells cur e (0, 0)) := by
  rcases h.2 with ⟨rfl, -⟩ | ⟨g, cap, cur, rfl, -, hg, -⟩
  · simp [Value.ownBlock] at hb
  · simp only [Value.ownBlock, Option.some.injEq] at hb
    subst hb
    exact ⟨cur, hg⟩
theorem CacheAt.apart_m {w : World} {m N n : Nat} {C : Nat → List (List UInt8)} {V : Nat → Value} (h : CacheAt w m N n C V) (i : Nat) : (V i).ownBlock ≠ some m := by
  intro e
  obtain ⟨cur, h1⟩ := row_at (h.rows i) e
  obtain ⟨es, cl, h2⟩ := h.map_at
  rw [h2] at h1
  cases h1
theorem CacheAt.kept {w w' : World} {m N n : Nat} {C : Nat → List (List UInt8)} {V : Nat → Value} (h : CacheAt w m N n C V) {F : Nat → Prop} (hc : Chg F w w') (hm : ¬ F m) (hV : ∀ i b, (V i).ownBlock = some b → ¬ F b) : CacheAt w' m N n C V := by
  obtain ⟨D, h1, h2, h3⟩ := h.own
  refine ⟨⟨D, ?_, h2, h3⟩, h.nil, fun i => ?_, h.txt, h.apart, h.few, h.ins⟩
  · obtain ⟨es, cl, e1, e2⟩ := h1
    exact ⟨es, cl, (hc.block m (Array.getElem?_eq_some_iff.1 e1).1 hm).trans e1, e2⟩
  · refine ⟨(h.rows i).1, ?_⟩
    rcases (h.rows i).2 with h0 | ⟨g, cap, cur, e, hB, hg, r⟩
    · exact .inl h0
    · exact .inr ⟨g, cap, cur, e, hB, (hc.block g (Array.getElem?_eq_some_iff.1 hg).1 (hV i g (by rw [e]; rfl))).trans hg, r⟩
theorem DK.kept {w w' : World} {p g m : Nat} {S : List Sec} {C : Nat → List (List UInt8)} {V : Nat → Value} {off : Bool} {fuse : Int} {n : Nat} (h : DK w p g m S C V off fuse n) {F : Nat → Prop} (hc : Chg F w w') (hF : ∀ b, foot p g m V b → ¬ F b) : DK w' p g m S C V off fuse n :=
  ⟨h.fit, h.one, h.most, (hc.block p (Array.getElem?_eq_some_iff.1 h.hp).1 (hF p (.inl rfl))).trans h.hp, (hc.block g (Array.getElem?_eq_some_iff.1 h.hg).1 (hF g (.inr (.inl rfl)))).trans h.hg,
   h.cache.kept hc (hF m (.inr (.inr (.inl rfl)))) (fun i b e => hF b (.inr (.inr (.inr ⟨i, e⟩)))), h.few, h.fu⟩
theorem DK.below {w w' : World} {p g m : Nat} {S : List Sec} {C : Nat → List (List UInt8)} {V : Nat → Value} {off : Bool} {fuse : Int} {n : Nat} (h : DK w p g m S C V off fuse n) (hb : Below w.heap.size w w') : DK w' p g m S C V off fuse n :=
  h.kept (F := fun _ => False) (Chg.of_below hb) (fun _ _ hf => hf)
theorem DK.lt {w : World} {p g m : Nat} {S : List Sec} {C : Nat → List (List UInt8)} {V : Nat → Value} {off : Bool} {fuse : Int} {n : Nat} (h : DK w p g m S C V off fuse n) {b : Nat} (hb : foot p g m V b) : b < w.heap.size := by
  rcases hb with rfl | rfl | rfl | ⟨i, e⟩
  · exact (Array.getElem?_eq_some_iff.1 h.hp).1
  · exact (Array.getElem?_eq_some_iff.1 h.hg).1
  · obtain ⟨es, cl, h1⟩ := h.cache.map_at
    exact (Array.getElem?_eq_some_iff.1 h1).1
  · obtain ⟨cur, h1⟩ := row_at (h.cache.rows i) e
    exact (Array.getElem?_eq_some_iff.1 h1).1
theorem DK.apartV {w : World} {p g m : Nat} {S : List Sec} {C : Nat → List (List UInt8)} {V : Nat → Value} {off : Bool} {fuse : Int} {n : Nat} (h : DK w p g m S C V off fuse n) (i : Nat) : (V i).ownBlock ≠ some p ∧ (V i).ownBlock ≠ some g ∧ (V i).ownBlock ≠ some m := by
  refine ⟨fun e => ?_, fun e => ?_, h.cache.apart_m i⟩
  · obtain ⟨cur, h1⟩ := row_at (h.cache.rows i) e
    rw [h.hp] at h1
    cases h1
  · obtain ⟨cur, h1⟩ := row_at (h.cache.rows i) e
    rw [h.hg] at h1
    cases h1
theorem DK.ne {w : World} {p g m : Nat} {S : List Sec} {C : Nat → List (List UInt8)} {V : Nat → Value} {off : Bool} {fuse : Int} {n : Nat} (h : DK w p g m S C V off fuse n) : p ≠ g ∧ p ≠ m ∧ g ≠ m := by
  obtain ⟨es, cl, h1⟩ := h.cache.map_at
  refine ⟨fun e => ?_, fun e => ?_, fun e => ?_⟩
  · have := h.hp; rw [e, h.hg] at this; simp only [Option.some.injEq, Obj.cells.injEq] at this; exact absurd this.2.1 (by decide)
  · have := h.hp; rw [e, h1] at this; cases this
  · have := h.hg; rw [e, h1] at this; cases this
theorem DK.secAt {w : World} {p g m : Nat} {S : List Sec} {C : Nat → List (List UInt8)} {V : Nat → Value} {off : Bool} {fuse : Int} {n : Nat} (h : DK w p g m S C V off fuse n) : SecAt w p g S :=
  ⟨fit_ok h.fit, h.one, h.most, ⟨S.length, by rw [cell_of_row _ _ 0 _ _ _ h.hp]; rfl, Nat.le_refl _, h.most⟩, fun k hk => secs_range (fit_ok h.fit) h.hg k hk⟩
/-- what a row of texts has -/
theorem texts_of {w : World} {v : Value} {vs : List (List UInt8)} (hv : ∀ t ∈ vs, t.length = 128) (h : w.ownsRow 0 59 128 v vs.length (flatT vs)) : ∃ a c, v = .slice a vs.length c ∧ Texts w a vs := by
  rcases h.2 with ⟨rfl, h0⟩ | ⟨g, cap, cur, rfl, -, hg, hn, hm, hs, ht⟩
  · obtain rfl : vs = [] := List.eq_nil_of_length_eq_zero h0
    exact ⟨none, 0, rfl, Texts.nil _ _⟩
  · refine ⟨_, cap, rfl, fun k hk => ⟨g, rfl, fun j u hj => ?_⟩⟩
    have hj2 : j < 128 := by
      have := (List.getElem?_eq_some_iff.1 hj).1
      rw [bv_length, hv _ (List.getElem_mem hk)] at this
      exact this
    have h1 := flat_at bv 128 vs (fun t ht => by rw [bv_length]; exact hv t ht) k j hk hj2
    have hm2 : (k + 1) * 128 ≤ vs.length * 128 := Nat.mul_le_mul_right _ hk
    rw [cell_of_row _ _ _ _ _ _ hg, ← Array.getElem?_toList, ← List.getElem?_take_of_lt (show k * 128 + j < vs.length * 128 by omega), ht]
    exact h1.trans hj
theorem DK.looks {w : World} {p g m : Nat} {S : List Sec} {C : Nat → List (List UInt8)} {V : Nat → Value} {off : Bool} {fuse : Int} {n : Nat} (h : DK w p g m S C V off fuse n) (i : Nat) (hi : i < S.length) : ∃ a c, V i = .slice a (C i).length c ∧ Looks w m i a c (C i) := by
  obtain ⟨a, c, hv, hx⟩ := texts_of (h.cache.txt i) (h.cache.rows i)
  refine ⟨a, c, hv, ⟨fun u hu => ?_, h.cache.txt i, Nat.le_trans (h.cache.few i) (Nat.le_trans h.few (by decide)), hx⟩⟩
  obtain ⟨D, h1, h2, h3⟩ := (h.below hu).cache.own
  have hi2 : i ≤ 65536 := by have := h.most; omega
  obtain ⟨v, ps, hrun, hR⟩ := h1.lookup keyI Try.underlying55 (zeroT u) (zd := .held nilS) (zp := []) rfl (kI_of hi2)
  rw [hrun]
  simp only [selfR, Option.some.injEq, Prod.mk.injEq] at hR
  have e1 := hR.1
  by_cases hc : C i = []
  · have hf : Maps.has D (kI i) = false := by
      cases hh : Maps.has D (kI i)
      · rfl
      · obtain ⟨j, -, e, hj⟩ := h3 _ hh
        by_cases hij : i = j
        · subst hij; exact absurd hc hj
        · exact absurd e (kI_ne hij)
    rw [atKey_of_not_has hf] at e1
    have e2 := h.cache.nil i hc
    rw [← hv, e2]
    cases e1
    rfl
  · rw [h2 i hc] at e1
    rw [← hv]
    cases e1
    rfl
end Go.Proofs.Ytgdkiejlggiakaa
