import Derived.Test.YtdkifaojpklmcaaDoorKTd
namespace Go.Proofs.YtdkifaojpklmcaaDoor
set_option linter.unusedVariables false
set_option linter.unusedSimpArgs false
open Go.RowKit
/-- a keeper amid the law, c of whose appends are done -/
structure EnC (w v : World) (kb g p Z c : Nat) (x : Lg) (d : Dst) (n : Nat) (X Y : Nat → Prop) (T : List Itm) (k : Kp) : Prop where
  st : Kst v kb g p x d n X Y T k
  Z : x.Z = Z
  nx : x.nx ≤ 79 * c
  gn : x.h.g + T.length ≤ 2 + c
  nn : n + T.length ≤ 65538 + 80 * c
  fX : ∀ b, X b → b = 0 ∨ w.heap.size ≤ b
  fY : ∀ b, Y b → w.heap.size ≤ b
  bel : Below w.heap.size w v
section
variable {w v : World} {kb g p Z c n : Nat} {x : Lg} {d : Dst} {X Y : Nat → Prop} {T : List Itm} {k : Kp}
theorem EnC.tab (h : EnC w v kb g p Z c x d n X Y T k) (ht : TabOk w) : TabOk v := ht.below h.bel
theorem EnC.below {u : World} (h : EnC w v kb g p Z c x d n X Y T k) (hb : Below v.heap.size v u) : EnC w u kb g p Z c x d n X Y T k :=
  ⟨⟨h.st.a.below hb, h.st.l, h.st.f⟩, h.Z, h.nx, h.gn, h.nn, h.fX, h.fY, below_next h.bel hb⟩
/-- what a change of the keeper's blocks leaves of what was there -/
theorem EnC.kept {u : World} (h : EnC w v kb g p Z c x d n X Y T k) (hc : Chg (fun b => X b ∨ Y b) v u) (hs : u.heap[0]? = v.heap[0]?) : Below w.heap.size w u := by
  refine ⟨hc.os.trans h.bel.os, hc.tape.trans h.bel.tape, hc.output.trans h.bel.output, Nat.le_trans h.bel.size hc.size, fun b hb => ?_⟩
  refine Eq.trans ?_ (h.bel.block b hb)
  by_cases e : b = 0
  · rw [e]; exact hs
  · refine hc.block b (Nat.lt_of_lt_of_le hb h.bel.size) ?_
    rintro (h9 | h9)
    · rcases h.fX b h9 with h8 | h8
      · exact e h8
      · omega
    · have := h.fY b h9; omega
/-- the first item goes -/
theorem EnC.trim (h : EnC w v kb g p Z c x d n X Y T k) (hT : T ≠ []) (hc : c ≤ 1048576) :
    Calls Tryd.prog 13 #[.pointer (some ⟨kb, 0, none⟩), .int .i64 1] v fun e u => e = .returned (.bool true) ∧ ∃ x' d' n' X' Y' k', EnC w u kb g p Z c x' d' n' X' Y' (T.drop 1) k' ∧ k'.told = k.told ∧ (∀ b, X' b → X b ∨ v.heap.size ≤ b) ∧ (∀ b, Y' b → Y b ∨ v.heap.size ≤ b) ∧ Chg (fun b => X b ∨ Y b) v u := by
  have hl := h.st.l
  have hTl : T.length ≤ 65536 := by have := hl.size; have := hl.fit; have := hl.N; have := hl.AZ; omega
  have hT1 : 1 ≤ T.length := by cases T with | nil => exact absurd rfl hT | cons t r => simp
  have hq : 1 = spanK 1 0 T.length := by
    unfold spanK
    rw [if_neg (by decide)]
    have : (1 : Int) % ((T.length : Int) - (0 : Nat) + 1) = 1 := Int.emod_eq_of_lt (by decide) (by omega)
    rw [this]
    rfl
  have hgo : x.h.f < numAt T x.nx 1 := by
    obtain ⟨t, ht⟩ : ∃ t, T[0]? = some t := ⟨_, List.getElem?_eq_getElem (by omega)⟩
    have h1 := hl.ch.lt_at (fun t ht => (needS_pos (hl.ok t ht).1.len).1) 0 1 t (by decide) hT1 ht
    have h2 := (hl.ch.le.2 t (List.mem_of_getElem? ht)).1
    omega
  have hgn := h.gn; have hnn := h.nn; have hnx := h.nx
  have hle : numAt T x.nx 1 ≤ x.nx := (hl.ch.drop 1).le.1
  refine Calls.mono (ktrims_t h.st 1 (by decide) (by decide) 1 hq hgo (by omega) (by omega) (by omega)) ?_
  rintro e u ⟨rfl, ⟨X', Y', hst, hX, hY⟩, hch, hsm⟩
  have hb := h.kept hch hsm
  refine ⟨rfl, _, _, _, X', Y', _, ⟨hst, h.Z, h.nx, ?_, ?_, fun b hb => ?_, fun b hb => ?_, hb⟩, rfl, hX, hY, hch⟩
  · show x.h.g + 1 + (T.drop 1).length ≤ _
    rw [List.length_drop]; omega
  · rw [List.length_drop]; omega
  · rcases hX b hb with h9 | h9
    · exact h.fX b h9
    · exact .inr (Nat.le_trans h.bel.size h9)
  · rcases hY b hb with h9 | h9
    · exact h.fY b h9
    · exact Nat.le_trans h.bel.size h9
theorem EnC.len (h : EnC w v kb g p Z c x d n X Y T k) : lenK v kb = T.length := by
  obtain ⟨ia, ic, M, hbx, hM, -, -, -, -⟩ := h.st.a.boxD
  unfold lenK
  rw [(cells11 hbx).2.2.2.1, ← hM]
theorem EnC.up (h : EnC w v kb g p Z c x d n X Y T k) : EnC w v kb g p Z (c + 1) x d n X Y T k := by
  have h1 := h.nx; have h2 := h.gn; have h3 := h.nn
  exact ⟨h.st, h.Z, by omega, by omega, by omega, h.fX, h.fY, h.bel⟩
/-- the record that is to be appended -/
structure Rc (w v : World) (X Y : Nat → Prop) (a : Option Addr) (rc : Nat) (rec : List UInt8) : Prop where
  own : Own v w.heap.size (.slice a rec.length rc) rec
  nX : ∀ q, a = some q → ¬ X q.block ∧ ¬ Y q.block ∧ q.block < v.heap.size
theorem Rc.kept {u : World} {a : Option Addr} {rc : Nat} {rec : List UInt8} {X' Y' : Nat → Prop} (h : Rc w v X Y a rc rec) (hc : Chg (fun b => X b ∨ Y b) v u) (hX : ∀ b, X' b → X b ∨ v.heap.size ≤ b) (hY : ∀ b, Y' b → Y b ∨ v.heap.size ≤ b) : Rc w u X' Y' a rc rec := by
  refine ⟨ownKept h.own (fun b hb => ?_), fun q e => ?_⟩
  · obtain ⟨q, e1, rfl⟩ := SA_blk hb
    obtain ⟨h1, h2, h3⟩ := h.nX q e1
    exact hc.block _ h3 (fun h9 => h9.elim h1 h2)
  · obtain ⟨h1, h2, h3⟩ := h.nX q e
    refine ⟨fun h9 => ?_, fun h9 => ?_, Nat.lt_of_lt_of_le h3 hc.size⟩
    · rcases hX _ h9 with h8 | h8
      · exact h1 h8
      · omega
    · rcases hY _ h9 with h8 | h8
      · exact h2 h8
      · omega
theorem Rc.below {u : World} {a : Option Addr} {rc : Nat} {rec : List UInt8} (h : Rc w v X Y a rc rec) (hb : Below v.heap.size v u) : Rc w u X Y a rc rec := h.kept (Chg.of_below hb) (fun _ h => .inl h) (fun _ h => .inl h)
theorem EnC.text (h : EnC w v kb g p Z c x d n X Y T k) (bs : Int) (hb1 : -9223372036854775808 ≤ bs) (hb2 : bs ≤ 9223372036854775807) (ht : k.told ≤ 1048576) :
    Calls Tryd.prog 10 #[.pointer (some ⟨kb, 0, none⟩), .int .i64 bs] v fun e u => ∃ a rc rec, e = .returned (.slice a (spanK bs 0 8192) rc) ∧ rec.length = spanK bs 0 8192 ∧ Rc w u X Y a rc rec ∧ EnC w u kb g p Z c x d n X Y T { k with told := k.told + 1 } := by
  refine Calls.mono (text_t h.st.a bs hb1 hb2 (by omega)) ?_
  rintro e u ⟨vl, rec, rfl, hl, hown, hA, hc⟩
  obtain ⟨a, rc, hv, -, -, -, -, hrb⟩ := Own.val hown
  subst hv
  have hS := h.st.a.sums
  have hsm := hc.block _ hS.1 (fun e => hS.2.1 (e ▸ hS.2.2))
  refine ⟨a, rc, rec, by rw [hl], hl, ⟨Own.base hown h.bel.size, fun q e => ?_⟩, ⟨hA, h.st.l, h.st.f.size, h.st.f.fst, h.st.f.ep, h.st.f.dead⟩, h.Z, h.nx, h.gn, h.nn, h.fX, h.fY, h.kept (hc.mono (fun b e => by subst e; exact .inr hS.2.2)) hsm⟩
  have hlt := (World.ownsRow.lt hown q.block (by rw [e]; cases q; rfl))
  exact ⟨fun h9 => by have := h.st.a.log.lt _ h9; omega, fun h9 => by have := (h.st.a.y _ h9).1; omega, hlt.2⟩
end
/-- begin, as the law wants it -/
theorem EnC.begin {w : World} (bs : Int) (hb1 : -9223372036854775808 ≤ bs) (hb2 : bs ≤ 9223372036854775807) (ht : TabOk w) :
    Calls Tryd.prog 8 #[.int .i64 bs] w fun e v => ∃ kb g p x d n X Y k, e = .returned (.tuple #[.pointer (some ⟨kb, 0, none⟩), .bool true]) ∧ EnC w v kb g p (spanK bs 3 65531) 0 x d n X Y [] k ∧ k.told = 0 := by
  refine Calls.mono (kbegin_t bs hb1 hb2 ht) ?_
  rintro e v ⟨⟨kb, g, p, d, X, Y, rfl, hA, hL, hX, hY⟩, hb⟩
  exact ⟨kb, g, p, _, d, _, X, Y, _, rfl, ⟨⟨hA, hL, rfl, rfl, rfl, rfl⟩, rfl, Nat.le_refl _, by show 2 + 0 ≤ 2 + 0; exact Nat.le_refl _, Nat.le_refl _, hX, hY, hb⟩, rfl⟩
end Go.Proofs.YtdkifaojpklmcaaDoor
