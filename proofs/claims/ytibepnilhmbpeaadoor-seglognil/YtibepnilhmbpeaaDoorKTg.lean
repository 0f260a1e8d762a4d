import Derived.Test.YtibepnilhmbpeaaDoorKTd
namespace Go.Proofs.YtibepnilhmbpeaaDoor
set_option linter.unusedVariables false
set_option linter.unusedSimpArgs false
open Go.RowKit
/-- a keeper amid the law, c of whose appends are done -/
structure EnC (w v : World) (kb g p Z c : Nat) (x : Lg) (d : Dst) (n : Nat) (X Y : Nat → Prop) (T : List Itm) (k : Kp) : Prop where
  st : Kst v kb g p x d n X Y T k
  Z : x.Z = Z
  nx : x.nx ≤ 79 * c
  gn : x.h.g + T.length ≤ 2 + c
  nn : n + T.length ≤ 65538 + 80 * c
  fX : ∀ b, X b → b = 0 ∨ w.heap.size ≤ b
  fY : ∀ b, Y b → w.heap.size ≤ b
  bel : Below w.heap.size w v
section
variable {w v : World} {kb g p Z c n : Nat} {x : Lg} {d : Dst} {X Y : Nat → Prop} {T : List Itm} {k : Kp}
theorem EnC.tab (h : EnC w v kb g p Z c x d n X Y T k) (ht : TabOk w) : TabOk v := ht.below h.bel
theorem EnC.below {u : World} (h : EnC w v kb g p Z c x d n X Y T k) (hb : Below v.heap.size v u) : EnC w u kb g p Z c x d n X Y T k :=
  ⟨⟨h.st.a.below hb, h.st.l, h.st.f⟩, h.Z, h.nx, h.gn, h.nn, h.fX, h.fY, below_next h.bel hb⟩
/-- what a change of the keeper's blocks leaves of what was there -/
theorem EnC.kept {u : World} (h : EnC w v kb g p Z c x d n X Y T k) (hc : Chg (fun b => X b ∨ Y b) v u) (hs : u.heap[0]? = v.heap[0]?) : Below w.heap.size w u := by
  refine ⟨hc.os.trans h.bel.os, hc.tape.trans h.bel.tape, hc.output.trans h.bel.output, Nat.le_trans h.bel.size hc.size, fun b hb => ?_⟩
  refine Eq.trans ?_ (h.bel.block b hb)
  by_cases e : b = 0
  · rw [e]; exact hs
  · refine hc.block b (Nat.lt_of_lt_of_le hb h.bel.size) ?_
    rintro (h9 | h9)
    · rcases h.fX b h9 with h8 | h8
      · exact e h8
      · omega
    · have := h.fY b h9; omega
theorem EnC.len (h : EnC w v kb g p Z c x d n X Y T k) : lenK v kb = T.length := by
  obtain ⟨ia, ic, M, hbx, hM, -, -, -, -⟩ := h.st.a.boxD
  unfold lenK
  rw [(cells11 hbx).2.2.2.1, ← hM]
theorem EnC.up (h : EnC w v kb g p Z c x d n X Y T k) : EnC w v kb g p Z (c + 1) x d n X Y T k := by
  have h1 := h.nx; have h2 := h.gn; have h3 := h.nn
  exact ⟨h.st, h.Z, by omega, by omega, by omega, h.fX, h.fY, h.bel⟩
/-- the record that is to be appended -/
structure Rc (w v : World) (X Y : Nat → Prop) (a : Option Addr) (rc : Nat) (rec : List UInt8) : Prop where
  own : Own v w.heap.size (.slice a rec.length rc) rec
  nX : ∀ q, a = some q → ¬ X q.block ∧ ¬ Y q.block ∧ q.block < v.heap.size
theorem Rc.kept {u : World} {a : Option Addr} {rc : Nat} {rec : List UInt8} {X' Y' : Nat → Prop} (h : Rc w v X Y a rc rec) (hc : Chg (fun b => X b ∨ Y b) v u) (hX : ∀ b, X' b → X b ∨ v.heap.size ≤ b) (hY : ∀ b, Y' b → Y b ∨ v.heap.size ≤ b) : Rc w u X' Y' a rc rec := by
  refine ⟨ownKept h.own (fun b hb => ?_), fun q e => ?_⟩
  · obtain ⟨q, e1, rfl⟩ := SA_blk hb
    obtain ⟨h1, h2, h3⟩ := h.nX q e1
    exact hc.block _ h3 (fun h9 => h9.elim h1 h2)
  · obtain ⟨h1, h2, h3⟩ := h.nX q e
    refine ⟨fun h9 => ?_, fun h9 => ?_, Nat.lt_of_lt_of_le h3 hc.size⟩
    · rcases hX _ h9 with h8 | h8
      · exact h1 h8
      · omega
    · rcases hY _ h9 with h8 | h8
      · exact h2 h8
      · omega
theorem Rc.below {u : World} {a : Option Addr} {rc : Nat} {rec : List UInt8} (h : Rc w v X Y a rc rec) (hb : Below v.heap.size v u) : Rc w u X Y a rc rec := h.kept (Chg.of_below hb) (fun _ h => .inl h) (fun _ h => .inl h)
theorem EnC.text (h : EnC w v kb g p Z c x d n X Y T k) (bs : Int) (hb1 : -9223372036854775808 ≤ bs) (hb2 : bs ≤ 9223372036854775807) (ht : k.told ≤ 1048576) :
    Calls Tryd.prog 10 #[.pointer (some ⟨kb, 0, none⟩), .int .i64 bs] v fun e u => ∃ a rc rec, e = .returned (.slice a (spanK bs 0 8192) rc) ∧ rec.length = spanK bs 0 8192 ∧ Rc w u X Y a rc rec ∧ EnC w u kb g p Z c x d n X Y T { k with told := k.told + 1 } := by
  refine Calls.mono (text_t h.st.a bs hb1 hb2 (by omega)) ?_
  rintro e u ⟨vl, rec, rfl, hl, hown, hA, hc⟩
  obtain ⟨a, rc, hv, -, -, -, -, hrb⟩ := Own.val hown
  subst hv
  have hS := h.st.a.sums
  have hsm := hc.block _ hS.1 (fun e => hS.2.1 (e ▸ hS.2.2))
  refine ⟨a, rc, rec, by rw [hl], hl, ⟨Own.base hown h.bel.size, fun q e => ?_⟩, ⟨hA, h.st.l, h.st.f.size, h.st.f.fst, h.st.f.ep, h.st.f.dead⟩, h.Z, h.nx, h.gn, h.nn, h.fX, h.fY, h.kept (hc.mono (fun b e => by subst e; exact .inr hS.2.2)) hsm⟩
  have hlt := (World.ownsRow.lt hown q.block (by rw [e]; cases q; rfl))
  exact ⟨fun h9 => by have := h.st.a.log.lt _ h9; omega, fun h9 => by have := (h.st.a.y _ h9).1; omega, hlt.2⟩
end
/-- begin, as the law wants it -/
theorem EnC.begin {w : World} (bs : Int) (hb1 : -9223372036854775808 ≤ bs) (hb2 : bs ≤ 9223372036854775807) (ht : TabOk w) :
    Calls Tryd.prog 8 #[.int .i64 bs] w fun e v => ∃ kb g p x d n X Y k, e = .returned (.tuple #[.pointer (some ⟨kb, 0, none⟩), .bool true]) ∧ EnC w v kb g p (spanK bs 3 65531) 0 x d n X Y [] k ∧ k.told = 0 := by
  refine Calls.mono (kbegin_t bs hb1 hb2 ht) ?_
  rintro e v ⟨⟨kb, g, p, d, X, Y, rfl, hA, hL, hX, hY⟩, hb⟩
  exact ⟨kb, g, p, _, d, _, X, Y, _, rfl, ⟨⟨hA, hL, rfl, rfl, rfl, rfl⟩, rfl, Nat.le_refl _, by show 2 + 0 ≤ 2 + 0; exact Nat.le_refl _, Nat.le_refl _, hX, hY, hb⟩, rfl⟩
end Go.Proofs.YtibepnilhmbpeaaDoor
namespace Go.Proofs.YtibepnilhmbpeaaDoor
set_option linter.unusedVariables false
set_option linter.unusedSimpArgs false
open Go.RowKit
/-- a disk that has gone on: elsewhere it is as it was -/
structure Oth (d d' : Dst) (A Z : Nat) : Prop where
  pw : Pow d'
  len : d'.S.length = d.S.length
  rd : ∀ j, j < d.S.length → (j < A ∨ A + Z ≤ j) → rdD d' j = rdD d j
theorem Oth.refl {d : Dst} {A Z : Nat} (h : Pow d) : Oth d d A Z := ⟨h, rfl, fun _ _ _ => rfl⟩
theorem Oth.liv {d d' : Dst} {A Z : Nat} {x : Lg} {T : List Itm} (h : Oth d d' A Z) (hl : Liv d x T) (ha : x.A + x.Z ≤ A ∨ A + Z ≤ x.A) : Liv d' x T :=
  hl.same h.pw h.len (fun j h1 h2 => h.rd j (by have := hl.AZ; omega) (by omega))
theorem Liv.appO {d : Dst} {x : Lg} {T : List Itm} (h : Liv d x T) (rec : List UInt8) (k : Nat) : Oth d (runO d (recO x.A x.Z x.nx x.h.e rec k)).1 x.A x.Z := by
  have hr := Pow.run (recO x.A x.Z x.nx x.h.e rec k) d h.pw
  refine ⟨hr.pow, runO_len _ _, fun j hj ho => ?_⟩
  rw [hr.rd j hj]
  refine recO_out _ (fun i hi e => ?_)
  have hs := secN_lt (A := x.A) (Z := x.Z) (n := x.nx + i) h.Z
  omega
/-- what a call on a keeper makes of the numbers; s: an Append -/
structure Stp (s : Nat) (x : Lg) (d : Dst) (n : Nat) (T : List Itm) (k : Kp) (x' : Lg) (d' : Dst) (n' : Nat) (T' : List Itm) (k' : Kp) : Prop where
  A : x'.A = x.A
  Z : x'.Z = x.Z
  nx : x'.nx ≤ x.nx + 79 * s
  gn : x'.h.g + T'.length ≤ x.h.g + T.length + s
  nn : n' + T'.length ≤ n + T.length + 80 * s
  ot : Oth d d' x.A x.Z
  told : k'.told = k.told + s
  last : k.last ≤ 65536 → k'.last ≤ 65536
theorem kap_any {w : World} {kb g p n : Nat} {x : Lg} {d : Dst} {X Y : Nat → Prop} {T : List Itm} {k : Kp} (h : Kst w kb g p x d n X Y T k) (bs : Int) (hb1 : -9223372036854775808 ≤ bs) (hb2 : bs ≤ 9223372036854775807) (ht : k.told + 1 < 4611686018427387904) (hn : n + 79 < 1099511627776) (hnx : x.nx + 79 < 281474976710656) :
    Calls Tryd.prog 19 #[.pointer (some ⟨kb, 0, none⟩), .int .i64 bs] w fun e w' => e = .returned (.bool true) ∧ ∃ x' d' n' T' k', KpO w kb g p X Y x' d' n' T' k' w' ∧ Stp 1 x d n T k x' d' n' T' k' ∧ (T' = T ∨ ∃ t, T' = T ++ [t]) := by
  by_cases hF : x.free < needS (spanK bs 0 8192)
  · refine Calls.mono (kappends_full h bs hb1 hb2 ht hn hnx hF) ?_
    rintro e w' ⟨rfl, ho⟩
    exact ⟨rfl, x, d, n, T, _, ho, ⟨rfl, rfl, by omega, by omega, by omega, Oth.refl h.l.pw, rfl, id⟩, .inl rfl⟩
  · refine Calls.mono (kappends_ok h bs hb1 hb2 ht hn hnx (by omega)) ?_
    rintro e w' ⟨rfl, rec, hrl, ho⟩
    have hs := (needS_pos (L := rec.length) (by rw [hrl]; exact (spanK_in bs 0 8192 (by decide)).2)).2.1
    exact ⟨rfl, _, _, _, _, _, ho, ⟨rfl, rfl, (by show x.nx + needS rec.length ≤ _; omega), (by show x.h.g + (T ++ [_]).length ≤ _; rw [List.length_append]; simp; omega), (by rw [List.length_append]; simp; omega), h.l.appO rec _, rfl, id⟩, .inr ⟨_, rfl⟩⟩
end Go.Proofs.YtibepnilhmbpeaaDoor
namespace Go.Proofs.YtibepnilhmbpeaaDoor
set_option linter.unusedVariables false
set_option linter.unusedSimpArgs false
open Go.RowKit
section
variable {w v : World} {kb g p Z c n : Nat} {x : Lg} {d : Dst} {X Y : Nat → Prop} {T : List Itm} {k : Kp}
/-- what a call leaves of a keeper amid the law; s: an Append -/
structure EnO (w v : World) (kb g p Z c s : Nat) (X Y : Nat → Prop) (T' : List Itm) (k : Kp) (u : World) : Prop where
  ex : ∃ x' d' n' X' Y' k', EnC w u kb g p Z (c + s) x' d' n' X' Y' T' k' ∧ k'.told = k.told + s ∧ (k.last ≤ 65536 → k'.last ≤ 65536) ∧ (∀ b, X' b → X b ∨ v.heap.size ≤ b) ∧ (∀ b, Y' b → Y b ∨ v.heap.size ≤ b)
  chg : Chg (fun b => X b ∨ Y b) v u
  sm : u.heap[0]? = v.heap[0]?
theorem EnC.step {u : World} {x' : Lg} {d' : Dst} {n' s : Nat} {T' : List Itm} {k' : Kp} (h : EnC w v kb g p Z c x d n X Y T k) (ho : KpO v kb g p X Y x' d' n' T' k' u) (hs : Stp s x d n T k x' d' n' T' k') : EnO w v kb g p Z c s X Y T' k u := by
  obtain ⟨⟨X', Y', hst, hX, hY⟩, hch, hsm⟩ := ho
  have h1 := h.nx; have h2 := h.gn; have h3 := h.nn
  have h4 := hs.nx; have h5 := hs.gn; have h6 := hs.nn
  refine ⟨⟨x', d', n', X', Y', k', ⟨hst, hs.Z.trans h.Z, by omega, by omega, by omega, fun b hb => ?_, fun b hb => ?_, h.kept hch hsm⟩, hs.told, hs.last, hX, hY⟩, hch, hsm⟩
  · rcases hX b hb with h9 | h9
    · exact h.fX b h9
    · exact .inr (Nat.le_trans h.bel.size h9)
  · rcases hY b hb with h9 | h9
    · exact h.fY b h9
    · exact Nat.le_trans h.bel.size h9
theorem EnC.ap (h : EnC w v kb g p Z c x d n X Y T k) (bs : Int) (hb1 : -9223372036854775808 ≤ bs) (hb2 : bs ≤ 9223372036854775807) (ht : k.told ≤ 4194304) (hc : c ≤ 4194304) :
    Calls Tryd.prog 19 #[.pointer (some ⟨kb, 0, none⟩), .int .i64 bs] v fun e u => e = .returned (.bool true) ∧ ∃ T', EnO w v kb g p Z c 1 X Y T' k u ∧ (T' = T ∨ ∃ t, T' = T ++ [t]) := by
  have h1 := h.nx; have h3 := h.nn
  refine Calls.mono (kap_any h.st bs hb1 hb2 (by omega) (by omega) (by omega)) ?_
  rintro e u ⟨rfl, x', d', n', T', k', ho, hs, hT⟩
  exact ⟨rfl, T', h.step ho hs, hT⟩
end
end Go.Proofs.YtibepnilhmbpeaaDoor
