import Derived.Test.YtnpcgegcoakbmaaDoorEA
import Derived.Test.YtnpcgegcoakbmaaDoorEB
namespace Go.Proofs.YtnpcgegcoakbmaaDoor
set_option linter.unusedVariables false
set_option linter.unusedSimpArgs false
open Go.RowKit
/-- a datagram in memory: was it turned, and the slice of its bytes -/
structure Dc where
  tn : Bool
  a : Option Addr
  n : Nat
  c : Nat
abbrev Dc.v (d : Dc) : Value := .slice d.a d.n d.c
/-- a datagram -/
structure Dgm where
  xs : List UInt8
  tn : Bool
abbrev KD : Kd Dc := { t := 65, ts := 23, k := 2, by_ := 32, f := fun d => [.bool d.tn, d.v], z := .agg #[.bool false, .slice none 0 0], hk := fun _ => rfl, h1 := (fun d u hu => by simp at hu; rcases hu with rfl | rfl <;> rfl), hpos := by decide, ht := Tryd.underlying23, hi := by kernel_rfl, hz := rfl }
abbrev KR : Kd Dc := { t := 79, ts := 58, k := 2, by_ := 32, f := fun d => [d.v, .bool d.tn], z := .agg #[.slice none 0 0, .bool false], hk := fun _ => rfl, h1 := (fun d u hu => by simp at hu; rcases hu with rfl | rfl <;> rfl), hpos := by decide, ht := Tryd.underlying58, hi := by kernel_rfl, hz := rfl }
/-- a side: the program's ways, or the document's -/
structure Sd where
  K : Kd Dc
  tW : TypeId
  n1 : tW ≠ K.t
  n2 : tW ≠ 5
  n3 : K.t ≠ 5
  k2 : K.k = 2
abbrev SP : Sd := ⟨KD, 25, by decide, by decide, by decide, rfl⟩
abbrev SR : Sd := ⟨KR, 60, by decide, by decide, by decide, rfl⟩
/-- the slice d has the bytes xs -/
structure ByV (w : World) (d : Dc) (xs : List UInt8) : Prop where
  n : d.n = xs.length
  rd : Rd w d.a xs
  nil : d.a = none → d.c = 0
  le : d.n ≤ d.c
  cm : d.c ≤ maxLen
  ty : ∀ ad, d.a = some ad → ∃ cur fr, w.heap[ad.block]? = some (.cells cur 5 fr)
theorem Rd.kept {w w' : World} {ao : Option Addr} {xs : List UInt8} (h : Rd w ao xs) (hk : ∀ ad, ao = some ad → w'.heap[ad.block]? = w.heap[ad.block]?) : Rd w' ao xs := fun hp => by
  obtain ⟨b, o, rfl, hc⟩ := h hp
  exact ⟨b, o, rfl, fun i hi => (by have h9 : w'.cell? ⟨b, o + i, none⟩ = w.cell? ⟨b, o + i, none⟩ := World.cell?_of_block (hk ⟨b, o, none⟩ rfl); exact h9.trans (hc i hi))⟩
theorem ByV.kept {w w' : World} {d : Dc} {xs : List UInt8} (h : ByV w d xs) (hk : ∀ ad, d.a = some ad → w'.heap[ad.block]? = w.heap[ad.block]?) : ByV w' d xs :=
  ⟨h.n, h.rd.kept hk, h.nil, h.le, h.cm, fun ad e => by obtain ⟨cur, fr, h1⟩ := h.ty ad e; exact ⟨cur, fr, (hk ad e).trans h1⟩⟩
theorem ByV.lt {w : World} {d : Dc} {xs : List UInt8} (h : ByV w d xs) {ad : Addr} (e : d.a = some ad) : ad.block < w.heap.size := by
  obtain ⟨cur, fr, h1⟩ := h.ty ad e
  exact (Array.getElem?_eq_some_iff.1 h1).1
theorem ByV.below {w w' : World} {d : Dc} {xs : List UInt8} (h : ByV w d xs) (hb : Below w.heap.size w w') : ByV w' d xs := h.kept (fun _ e => hb.block _ (h.lt e))
theorem ByV.of_own {w : World} {B : Nat} {a : Option Addr} {n c : Nat} {xs : List UInt8} (tn : Bool) (h : Own w B (.slice a n c) xs) : ByV w ⟨tn, a, n, c⟩ xs ∧ ∀ ad, a = some ad → B ≤ ad.block := by
  rcases h.2 with ⟨e, h0⟩ | ⟨g, cap, cur, e, hB, hg, hn, hm, hs, ht⟩
  · cases e
    exact ⟨⟨h0.symm, (by have : xs = [] := List.eq_nil_of_length_eq_zero h0; subst this; exact Rd.nil _ _), fun _ => rfl, Nat.le_refl _, Nat.zero_le _, fun ad h => by cases h⟩, fun ad h => by cases h⟩
  · obtain ⟨a', c', hv, -, -, -, hrd, -⟩ := h.val
    cases e
    cases hv
    exact ⟨⟨rfl, hrd, (fun h => by cases h), hn, hm, fun ad h => by cases h; exact ⟨cur, _, hg⟩⟩, fun ad h => by cases h; exact hB⟩
/-- a way in memory -/
structure Wy (S : Sd) (w : World) (p R : Nat) (v : Value) (E : List Dc) (L : List Dgm) : Prop where
  hp : w.heap[p]? = some (.cells #[.int .i64 (R : Int), v] S.tW (0, 0))
  row : OwnG S.K w 0 v E
  len : E.length = L.length
  els : ∀ (i : Nat) e d, E[i]? = some e → L[i]? = some d → e.tn = d.tn ∧ ByV w e d.xs ∧ d.xs.length ≤ 2048
  r0 : 1 ≤ R
  r1 : R ≤ 1024
  lr : L.length ≤ R
def footY (p : Nat) (v : Value) (E : List Dc) (b : Nat) : Prop := b = p ∨ v.ownBlock = some b ∨ ∃ e ∈ E, ∃ ad, e.a = some ad ∧ ad.block = b
/-- what a call may change -/
structure WSt (w w' : World) (p : Nat) (v : Value) (E : List Dc) (v' : Value) (E' : List Dc) : Prop where
  chg : Chg (fun b => b = p ∨ v.ownBlock = some b) w w'
  new : ∀ b, footY p v' E' b → footY p v E b ∨ w.heap.size ≤ b
  row : ∀ b, v'.ownBlock = some b → v.ownBlock = some b ∨ w.heap.size ≤ b
theorem WSt.below {w w' : World} (h : Below w.heap.size w w') (p : Nat) (v : Value) (E : List Dc) : WSt w w' p v E v E := ⟨Chg.of_below h, fun _ h => .inl h, fun _ h => .inl h⟩
theorem WSt.refl (w : World) (p : Nat) (v : Value) (E : List Dc) : WSt w w p v E v E := WSt.below (Below.refl _ _) p v E
theorem WSt.trans {a b c : World} {p : Nat} {v v' v'' : Value} {E E' E'' : List Dc} (h : WSt a b p v E v' E') (k : WSt b c p v' E' v'' E'') : WSt a c p v E v'' E'' := by
  refine ⟨h.chg.trans k.chg (fun i hi => ?_), fun i hi => ?_, fun i hi => ?_⟩
  · rcases hi with rfl | hi
    · exact .inl (.inl rfl)
    · rcases h.row i hi with h1 | h1
      · exact .inl (.inr h1)
      · exact .inr h1
  · rcases k.new i hi with h1 | h1
    · exact h.new i h1
    · exact .inr (Nat.le_trans h.chg.size h1)
  · rcases k.row i hi with h1 | h1
    · exact h.row i h1
    · exact .inr (Nat.le_trans h.chg.size h1)
section
variable {S : Sd} {w w' : World} {p R : Nat} {v : Value} {E : List Dc} {L : List Dgm}
theorem Wy.mem (h : Wy S w p R v E L) {e : Dc} (he : e ∈ E) : ∃ xs, ByV w e xs := by
  obtain ⟨i, hi, rfl⟩ := List.mem_iff_getElem.1 he
  have hL : i < L.length := by rw [← h.len]; exact hi
  exact ⟨_, (h.els i E[i] L[i] (List.getElem?_eq_getElem hi) (List.getElem?_eq_getElem hL)).2.1⟩
theorem Wy.lt (h : Wy S w p R v E L) {b : Nat} (hb : footY p v E b) : b < w.heap.size := by
  rcases hb with rfl | hb | ⟨e, he, ad, ha, rfl⟩
  · exact (Array.getElem?_eq_some_iff.1 h.hp).1
  · exact (h.row.lt' hb).2
  · obtain ⟨xs, hx⟩ := h.mem he
    exact hx.lt ha
theorem Wy.kept (h : Wy S w p R v E L) (hk : ∀ b, footY p v E b → w'.heap[b]? = w.heap[b]?) : Wy S w' p R v E L :=
  ⟨(hk p (.inl rfl)).trans h.hp, h.row.kept (fun b e => hk b (.inr (.inl e))), h.len, fun i e d he hd => by
    obtain ⟨h1, h2, h3⟩ := h.els i e d he hd
    exact ⟨h1, h2.kept (fun ad ha => hk _ (.inr (.inr ⟨e, List.mem_of_getElem? he, ad, ha, rfl⟩))), h3⟩, h.r0, h.r1, h.lr⟩
theorem Wy.below (h : Wy S w p R v E L) (hb : Below w.heap.size w w') : Wy S w' p R v E L := h.kept (fun b hf => hb.block b (h.lt hf))
theorem Wy.c0 (h : Wy S w p R v E L) : w.cell? ⟨p, 0, none⟩ = some (.int .i64 (R : Int)) := by rw [cell_of_row _ _ _ _ _ _ h.hp]; rfl
theorem Wy.c1 (h : Wy S w p R v E L) : w.cell? ⟨p, 1, none⟩ = some v := by rw [cell_of_row _ _ _ _ _ _ h.hp]; rfl
theorem Wy.fz (h : Wy S w p R v E L) (i : Nat) : w.frozen? ⟨p, i, none⟩ = false := by simp [World.frozen?, h.hp]
theorem ty_of {w : World} {b : Nat} {C C' : Array Value} {t t' : TypeId} {f f' : Nat × Nat} (h : w.heap[b]? = some (.cells C t f)) (h' : w.heap[b]? = some (.cells C' t' f')) : t = t' := by
  rw [h] at h'
  simp only [Option.some.injEq, Obj.cells.injEq] at h'
  exact h'.2.1
theorem Wy.pv (h : Wy S w p R v E L) : v.ownBlock ≠ some p := fun e => by
  obtain ⟨cur, h1⟩ := h.row.at_ e
  exact S.n1 (ty_of h.hp h1)
theorem Wy.pe (h : Wy S w p R v E L) {e : Dc} {ad : Addr} {xs : List UInt8} (hx : ByV w e xs) (ha : e.a = some ad) : ad.block ≠ p ∧ v.ownBlock ≠ some ad.block := by
  obtain ⟨cur, fr, h1⟩ := hx.ty ad ha
  refine ⟨fun e2 => ?_, fun e2 => ?_⟩
  · rw [e2] at h1; exact S.n2 (ty_of h.hp h1)
  · obtain ⟨cur2, h2⟩ := h.row.at_ e2
    exact S.n3 (ty_of h2 h1)
/-- bytes are not touched by what is done to the row -/
theorem Wy.elk (h : Wy S w p R v E L) (hc : Chg (fun b => b = p ∨ v.ownBlock = some b) w w') {e : Dc} {xs : List UInt8} (hx : ByV w e xs) : ByV w' e xs :=
  hx.kept (fun ad ha => hc.block _ (hx.lt ha) (fun hf => by
    obtain ⟨h1, h2⟩ := h.pe hx ha
    rcases hf with hf | hf
    · exact h1 hf
    · exact h2 hf))
/-- another row -/
theorem Wy.setRow (h : Wy S w p R v E L) (hc : Chg (fun b => v.ownBlock = some b) w w') {v' : Value} {E' : List Dc} {L' : List Dgm} (ho : OwnG S.K w' 0 v' E') (hnew : ∀ b, v'.ownBlock = some b → v.ownBlock = some b ∨ w.heap.size ≤ b)
    (hlen : E'.length = L'.length) (hels : ∀ (i : Nat) e d, E'[i]? = some e → L'[i]? = some d → e.tn = d.tn ∧ ByV w' e d.xs ∧ d.xs.length ≤ 2048) (hbl : ∀ e ∈ E', ∀ ad, e.a = some ad → (∃ e2 ∈ E, e2.a = some ad) ∨ w.heap.size ≤ ad.block) (hlr : L'.length ≤ R) :
    Wy S (w'.setCell ⟨p, 1, none⟩ v') p R v' E' L' ∧ WSt w (w'.setCell ⟨p, 1, none⟩ v') p v E v' E' := by
  have hp' : w'.heap[p]? = some (.cells #[.int .i64 (R : Int), v] S.tW (0, 0)) := (hc.block p (h.lt (.inl rfl)) h.pv).trans h.hp
  have hoth : ∀ b, b ≠ p → (w'.setCell ⟨p, 1, none⟩ v').heap[b]? = w'.heap[b]? := fun b hb => heap_setCell_other _ _ _ _ hb
  have hvp : ∀ b, v'.ownBlock = some b → b ≠ p := fun b hb e => by
    subst e
    obtain ⟨cur, h1⟩ := ho.at_ hb
    exact S.n1 (ty_of hp' h1)
  refine ⟨⟨(heap_setCell_same _ _ _ _ _ _ hp').trans rfl, ho.kept (fun b hb => hoth b (hvp b hb)), hlen, fun i e d he hd => ?_, h.r0, h.r1, hlr⟩, ?_, fun b hb => ?_, hnew⟩
  · obtain ⟨h1, h2, h3⟩ := hels i e d he hd
    refine ⟨h1, h2.kept (fun ad ha => hoth _ (fun e2 => ?_)), h3⟩
    obtain ⟨cur, fr, h4⟩ := h2.ty ad ha
    rw [e2] at h4
    exact S.n2 (ty_of hp' h4)
  · exact (hc.mono (fun b hb => .inr hb)).trans (G := fun b => b = p) (Chg.of_grown (gset1 _ p 1 _) (fun b e => (Option.some.inj e).symm)) (fun b e => .inl (.inl e))
  · rcases hb with hb | hb | ⟨e, he, ad, ha, hb⟩
    · exact .inl (.inl hb)
    · rcases hnew b hb with h1 | h1
      · exact .inl (.inr (.inl h1))
      · exact .inr h1
    · rcases hbl e he ad ha with ⟨e2, h1, h2⟩ | h1
      · exact .inl (.inr (.inr ⟨e2, h1, ad, h2, hb⟩))
      · exact .inr (hb ▸ h1)
/-- elements written over where they lie -/
theorem Wy.inRow (h : Wy S w p R v E L) (hc : Chg (fun b => v.ownBlock = some b) w w') {E' : List Dc} {L' : List Dgm} (ho : OwnG S.K w' 0 v E')
    (hlen : E'.length = L'.length) (hels : ∀ (i : Nat) e d, E'[i]? = some e → L'[i]? = some d → e.tn = d.tn ∧ ByV w' e d.xs ∧ d.xs.length ≤ 2048) (hbl : ∀ e ∈ E', ∀ ad, e.a = some ad → (∃ e2 ∈ E, e2.a = some ad) ∨ w.heap.size ≤ ad.block) (hlr : L'.length ≤ R) :
    Wy S w' p R v E' L' ∧ WSt w w' p v E v E' := by
  have hp' : w'.heap[p]? = some (.cells #[.int .i64 (R : Int), v] S.tW (0, 0)) := (hc.block p (h.lt (.inl rfl)) h.pv).trans h.hp
  refine ⟨⟨hp', ho, hlen, hels, h.r0, h.r1, hlr⟩, hc.mono (fun b hb => .inr hb), fun b hb => ?_, fun b hb => .inl hb⟩
  rcases hb with hb | hb | ⟨e, he, ad, ha, hb⟩
  · exact .inl (.inl hb)
  · exact .inl (.inr (.inl hb))
  · rcases hbl e he ad ha with ⟨e2, h1, h2⟩ | h1
    · exact .inl (.inr (.inr ⟨e2, h1, ad, h2, hb⟩))
    · exact .inr (hb ▸ h1)
/-- a side stays while the other is worked on -/
theorem Wy.apart {S2 : Sd} {q R2 : Nat} {v2 : Value} {E2 : List Dc} {L2 : List Dgm} (h : Wy S w p R v E L) (h2 : Wy S2 w q R2 v2 E2 L2) (n1 : S.tW ≠ S2.tW) (n2 : S.tW ≠ S2.K.t) (n3 : S.K.t ≠ S2.tW) (n4 : S.K.t ≠ S2.K.t) (hc : Chg (fun b => b = p ∨ v.ownBlock = some b) w w') : Wy S2 w' q R2 v2 E2 L2 := by
  have hty : ∀ b, (b = p ∨ v.ownBlock = some b) → ∃ C t f, w.heap[b]? = some (.cells C t f) ∧ (t = S.tW ∨ t = S.K.t) := fun b hb => by
    rcases hb with rfl | hb
    · exact ⟨_, _, _, h.hp, .inl rfl⟩
    · obtain ⟨cur, h1⟩ := h.row.at_ hb
      exact ⟨_, _, _, h1, .inr rfl⟩
  refine h2.kept (fun b hb => hc.block b (h2.lt hb) (fun hf => ?_))
  obtain ⟨C, t, f, ht, hor⟩ := hty b hf
  rcases hb with rfl | hb | ⟨e, he, ad, ha, rfl⟩
  · have := ty_of ht h2.hp
    rcases hor with rfl | rfl
    · exact n1 this
    · exact n3 this
  · obtain ⟨cur, h1⟩ := h2.row.at_ hb
    have := ty_of ht h1
    rcases hor with rfl | rfl
    · exact n2 this
    · exact n4 this
  · obtain ⟨xs, hx⟩ := h2.mem he
    obtain ⟨cur, fr, h1⟩ := hx.ty ad ha
    have := ty_of ht h1
    rcases hor with rfl | rfl
    · exact S.n2 this
    · exact S.n3 this
end
end Go.Proofs.YtnpcgegcoakbmaaDoor
