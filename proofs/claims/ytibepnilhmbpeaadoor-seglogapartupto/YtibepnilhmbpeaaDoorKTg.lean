import Derived.Test.YtibepnilhmbpeaaDoorKTd
namespace Go.Proofs.YtibepnilhmbpeaaDoor
set_option linter.unusedVariables false
set_option linter.unusedSimpArgs false
open Go.RowKit
/-- a keeper amid the law, c of whose appends are done -/
structure EnC (w v : World) (kb g p Z c : Nat) (x : Lg) (d : Dst) (n : Nat) (X Y : Nat → Prop) (T : List Itm) (k : Kp) : Prop where
  st : Kst v kb g p x d n X Y T k
  Z : x.Z = Z
  nx : x.nx ≤ 79 * c
  gn : x.h.g + T.length ≤ 2 + c
  nn : n + T.length ≤ 65538 + 80 * c
  fX : ∀ b, X b → b = 0 ∨ w.heap.size ≤ b
  fY : ∀ b, Y b → w.heap.size ≤ b
  bel : Below w.heap.size w v
section
variable {w v : World} {kb g p Z c n : Nat} {x : Lg} {d : Dst} {X Y : Nat → Prop} {T : List Itm} {k : Kp}
theorem EnC.tab (h : EnC w v kb g p Z c x d n X Y T k) (ht : TabOk w) : TabOk v := ht.below h.bel
theorem EnC.below {u : World} (h : EnC w v kb g p Z c x d n X Y T k) (hb : Below v.heap.size v u) : EnC w u kb g p Z c x d n X Y T k :=
  ⟨⟨h.st.a.below hb, h.st.l, h.st.f⟩, h.Z, h.nx, h.gn, h.nn, h.fX, h.fY, below_next h.bel hb⟩
/-- what a change of the keeper's blocks leaves of what was there -/
theorem EnC.kept {u : World} (h : EnC w v kb g p Z c x d n X Y T k) (hc : Chg (fun b => X b ∨ Y b) v u) (hs : u.heap[0]? = v.heap[0]?) : Below w.heap.size w u := by
  refine ⟨hc.os.trans h.bel.os, hc.tape.trans h.bel.tape, hc.output.trans h.bel.output, Nat.le_trans h.bel.size hc.size, fun b hb => ?_⟩
  refine Eq.trans ?_ (h.bel.block b hb)
  by_cases e : b = 0
  · rw [e]; exact hs
  · refine hc.block b (Nat.lt_of_lt_of_le hb h.bel.size) ?_
    rintro (h9 | h9)
    · rcases h.fX b h9 with h8 | h8
      · exact e h8
      · omega
    · have := h.fY b h9; omega
/-- the first item goes -/
theorem EnC.trim (h : EnC w v kb g p Z c x d n X Y T k) (hT : T ≠ []) (hc : c ≤ 1048576) :
    Calls Tryd.prog 13 #[.pointer (some ⟨kb, 0, none⟩), .int .i64 1] v fun e u => e = .returned (.bool true) ∧ ∃ x' d' n' X' Y' k', EnC w u kb g p Z c x' d' n' X' Y' (T.drop 1) k' ∧ k'.told = k.told ∧ (∀ b, X' b → X b ∨ v.heap.size ≤ b) ∧ (∀ b, Y' b → Y b ∨ v.heap.size ≤ b) ∧ Chg (fun b => X b ∨ Y b) v u := by
  have hl := h.st.l
  have hTl : T.length ≤ 65536 := by have := hl.size; have := hl.fit; have := hl.N; have := hl.AZ; omega
  have hT1 : 1 ≤ T.length := by cases T with | nil => exact absurd rfl hT | cons t r => simp
  have hq : 1 = spanK 1 0 T.length := by
    unfold spanK
    rw [if_neg (by decide)]
    have : (1 : Int) % ((T.length : Int) - (0 : Nat) + 1) = 1 := Int.emod_eq_of_lt (by decide) (by omega)
    rw [this]
    rfl
  have hgo : x.h.f < numAt T x.nx 1 := by
    obtain ⟨t, ht⟩ : ∃ t, T[0]? = some t := ⟨_, List.getElem?_eq_getElem (by omega)⟩
    have h1 := hl.ch.lt_at (fun t ht => (needS_pos (hl.ok t ht).1.len).1) 0 1 t (by decide) hT1 ht
    have h2 := (hl.ch.le.2 t (List.mem_of_getElem? ht)).1
    omega
  have hgn := h.gn; have hnn := h.nn; have hnx := h.nx
  have hle : numAt T x.nx 1 ≤ x.nx := (hl.ch.drop 1).le.1
  refine Calls.mono (ktrims_t h.st 1 (by decide) (by decide) 1 hq hgo (by omega) (by omega) (by omega)) ?_
  rintro e u ⟨rfl, ⟨X', Y', hst, hX, hY⟩, hch, hsm, -⟩
  have hb := h.kept hch hsm
  refine ⟨rfl, _, _, _, X', Y', _, ⟨hst, h.Z, h.nx, ?_, ?_, fun b hb => ?_, fun b hb => ?_, hb⟩, rfl, hX, hY, hch⟩
  · show x.h.g + 1 + (T.drop 1).length ≤ _
    rw [List.length_drop]; omega
  · rw [List.length_drop]; omega
  · rcases hX b hb with h9 | h9
    · exact h.fX b h9
    · exact .inr (Nat.le_trans h.bel.size h9)
  · rcases hY b hb with h9 | h9
    · exact h.fY b h9
    · exact Nat.le_trans h.bel.size h9
theorem EnC.len (h : EnC w v kb g p Z c x d n X Y T k) : lenK v kb = T.length := by
  obtain ⟨ia, ic, M, hbx, hM, -, -, -, -⟩ := h.st.a.boxD
  unfold lenK
  rw [(cells11 hbx).2.2.2.1, ← hM]
theorem EnC.up (h : EnC w v kb g p Z c x d n X Y T k) : EnC w v kb g p Z (c + 1) x d n X Y T k := by
  have h1 := h.nx; have h2 := h.gn; have h3 := h.nn
  exact ⟨h.st, h.Z, by omega, by omega, by omega, h.fX, h.fY, h.bel⟩
/-- the record that is to be appended -/
structure Rc (w v : World) (X Y : Nat → Prop) (a : Option Addr) (rc : Nat) (rec : List UInt8) : Prop where
  own : Own v w.heap.size (.slice a rec.length rc) rec
  nX : ∀ q, a = some q → ¬ X q.block ∧ ¬ Y q.block ∧ q.block < v.heap.size
theorem Rc.kept {u : World} {a : Option Addr} {rc : Nat} {rec : List UInt8} {X' Y' : Nat → Prop} (h : Rc w v X Y a rc rec) (hc : Chg (fun b => X b ∨ Y b) v u) (hX : ∀ b, X' b → X b ∨ v.heap.size ≤ b) (hY : ∀ b, Y' b → Y b ∨ v.heap.size ≤ b) : Rc w u X' Y' a rc rec := by
  refine ⟨ownKept h.own (fun b hb => ?_), fun q e => ?_⟩
  · obtain ⟨q, e1, rfl⟩ := SA_blk hb
    obtain ⟨h1, h2, h3⟩ := h.nX q e1
    exact hc.block _ h3 (fun h9 => h9.elim h1 h2)
  · obtain ⟨h1, h2, h3⟩ := h.nX q e
    refine ⟨fun h9 => ?_, fun h9 => ?_, Nat.lt_of_lt_of_le h3 hc.size⟩
    · rcases hX _ h9 with h8 | h8
      · exact h1 h8
      · omega
    · rcases hY _ h9 with h8 | h8
      · exact h2 h8
      · omega
theorem Rc.below {u : World} {a : Option Addr} {rc : Nat} {rec : List UInt8} (h : Rc w v X Y a rc rec) (hb : Below v.heap.size v u) : Rc w u X Y a rc rec := h.kept (Chg.of_below hb) (fun _ h => .inl h) (fun _ h => .inl h)
theorem EnC.text (h : EnC w v kb g p Z c x d n X Y T k) (bs : Int) (hb1 : -9223372036854775808 ≤ bs) (hb2 : bs ≤ 9223372036854775807) (ht : k.told ≤ 1048576) :
    Calls Tryd.prog 10 #[.pointer (some ⟨kb, 0, none⟩), .int .i64 bs] v fun e u => ∃ a rc rec, e = .returned (.slice a (spanK bs 0 8192) rc) ∧ rec.length = spanK bs 0 8192 ∧ Rc w u X Y a rc rec ∧ EnC w u kb g p Z c x d n X Y T { k with told := k.told + 1 } := by
  refine Calls.mono (text_t h.st.a bs hb1 hb2 (by omega)) ?_
  rintro e u ⟨vl, rec, rfl, hl, hown, hA, hc⟩
  obtain ⟨a, rc, hv, -, -, -, -, hrb⟩ := Own.val hown
  subst hv
  have hS := h.st.a.sums
  have hsm := hc.block _ hS.1 (fun e => hS.2.1 (e ▸ hS.2.2))
  refine ⟨a, rc, rec, by rw [hl], hl, ⟨Own.base hown h.bel.size, fun q e => ?_⟩, ⟨hA, h.st.l, h.st.f.size, h.st.f.fst, h.st.f.ep, h.st.f.dead⟩, h.Z, h.nx, h.gn, h.nn, h.fX, h.fY, h.kept (hc.mono (fun b e => by subst e; exact .inr hS.2.2)) hsm⟩
  have hlt := (World.ownsRow.lt hown q.block (by rw [e]; cases q; rfl))
  exact ⟨fun h9 => by have := h.st.a.log.lt _ h9; omega, fun h9 => by have := (h.st.a.y _ h9).1; omega, hlt.2⟩
end
/-- begin, as the law wants it -/
theorem EnC.begin {w : World} (bs : Int) (hb1 : -9223372036854775808 ≤ bs) (hb2 : bs ≤ 9223372036854775807) (ht : TabOk w) :
    Calls Tryd.prog 8 #[.int .i64 bs] w fun e v => ∃ kb g p x d n X Y k, e = .returned (.tuple #[.pointer (some ⟨kb, 0, none⟩), .bool true]) ∧ EnC w v kb g p (spanK bs 3 65531) 0 x d n X Y [] k ∧ k.told = 0 := by
  refine Calls.mono (kbegin_t bs hb1 hb2 ht) ?_
  rintro e v ⟨⟨kb, g, p, d, X, Y, rfl, hA, hL, hX, hY⟩, hb⟩
  exact ⟨kb, g, p, _, d, _, X, Y, _, rfl, ⟨⟨hA, hL, rfl, rfl, rfl, rfl⟩, rfl, Nat.le_refl _, by show 2 + 0 ≤ 2 + 0; exact Nat.le_refl _, Nat.le_refl _, hX, hY, hb⟩, rfl⟩
end Go.Proofs.YtibepnilhmbpeaaDoor
namespace Go.Proofs.YtibepnilhmbpeaaDoor
set_option linter.unusedVariables false
set_option linter.unusedSimpArgs false
open Go.RowKit
/-- a disk that has gone on: elsewhere it is as it was -/
structure Oth (d d' : Dst) (A Z : Nat) : Prop where
  pw : Pow d'
  len : d'.S.length = d.S.length
  rd : ∀ j, j < d.S.length → (j < A ∨ A + Z ≤ j) → rdD d' j = rdD d j
theorem Oth.refl {d : Dst} {A Z : Nat} (h : Pow d) : Oth d d A Z := ⟨h, rfl, fun _ _ _ => rfl⟩
theorem Oth.liv {d d' : Dst} {A Z : Nat} {x : Lg} {T : List Itm} (h : Oth d d' A Z) (hl : Liv d x T) (ha : x.A + x.Z ≤ A ∨ A + Z ≤ x.A) : Liv d' x T :=
  hl.same h.pw h.len (fun j h1 h2 => h.rd j (by have := hl.AZ; omega) (by omega))
theorem Liv.appO {d : Dst} {x : Lg} {T : List Itm} (h : Liv d x T) (rec : List UInt8) (k : Nat) : Oth d (runO d (recO x.A x.Z x.nx x.h.e rec k)).1 x.A x.Z := by
  have hr := Pow.run (recO x.A x.Z x.nx x.h.e rec k) d h.pw
  refine ⟨hr.pow, runO_len _ _, fun j hj ho => ?_⟩
  rw [hr.rd j hj]
  refine recO_out _ (fun i hi e => ?_)
  have hs := secN_lt (A := x.A) (Z := x.Z) (n := x.nx + i) h.Z
  omega
theorem Liv.hdOt {d : Dst} {x : Lg} {T : List Itm} (h : Liv d x T) (hd : Hd) : Oth d (runO d (hdO x.A x.Z hd)).1 x.A x.Z := by
  have hr := Pow.run (hdO x.A x.Z hd) d h.pw
  have hZ := h.Z
  refine ⟨hr.pow, runO_len _ _, fun j hj ho => ?_⟩
  rw [hr.rd j hj, wrO_hd, if_neg (by omega)]
/-- what a call on a keeper makes of the numbers; s: an Append -/
structure Stp (s : Nat) (x : Lg) (d : Dst) (n : Nat) (T : List Itm) (k : Kp) (x' : Lg) (d' : Dst) (n' : Nat) (T' : List Itm) (k' : Kp) : Prop where
  A : x'.A = x.A
  Z : x'.Z = x.Z
  nx : x'.nx ≤ x.nx + 79 * s
  gn : x'.h.g + T'.length ≤ x.h.g + T.length + s
  nn : n' + T'.length ≤ n + T.length + 80 * s
  ot : Oth d d' x.A x.Z
  told : k'.told = k.told + s
  last : k.last ≤ 65536 → k'.last ≤ 65536
theorem kap_any {w : World} {kb g p n : Nat} {x : Lg} {d : Dst} {X Y : Nat → Prop} {T : List Itm} {k : Kp} (h : Kst w kb g p x d n X Y T k) (bs : Int) (hb1 : -9223372036854775808 ≤ bs) (hb2 : bs ≤ 9223372036854775807) (ht : k.told + 1 < 4611686018427387904) (hn : n + 79 < 1099511627776) (hnx : x.nx + 79 < 281474976710656) :
    Calls Tryd.prog 19 #[.pointer (some ⟨kb, 0, none⟩), .int .i64 bs] w fun e w' => e = .returned (.bool true) ∧ ∃ x' d' n' T' k', KpO w kb g p X Y x' d' n' T' k' w' ∧ Stp 1 x d n T k x' d' n' T' k' ∧ (T' = T ∨ ∃ t, T' = T ++ [t]) := by
  by_cases hF : x.free < needS (spanK bs 0 8192)
  · refine Calls.mono (kappends_full h bs hb1 hb2 ht hn hnx hF) ?_
    rintro e w' ⟨rfl, ho⟩
    exact ⟨rfl, x, d, n, T, _, ho, ⟨rfl, rfl, by omega, by omega, by omega, Oth.refl h.l.pw, rfl, id⟩, .inl rfl⟩
  · refine Calls.mono (kappends_ok h bs hb1 hb2 ht hn hnx (by omega)) ?_
    rintro e w' ⟨rfl, rec, hrl, ho⟩
    have hs := (needS_pos (L := rec.length) (by rw [hrl]; exact (spanK_in bs 0 8192 (by decide)).2)).2.1
    exact ⟨rfl, _, _, _, _, _, ho, ⟨rfl, rfl, (by show x.nx + needS rec.length ≤ _; omega), (by show x.h.g + (T ++ [_]).length ≤ _; rw [List.length_append]; simp; omega), (by rw [List.length_append]; simp; omega), h.l.appO rec _, rfl, id⟩, .inr ⟨_, rfl⟩⟩
theorem LogX.trim_low {w : World} {g p n : Nat} {x : Lg} {d : Dst} {X : Nat → Prop} {T : List Itm} (h : LogX w g p x d n X) (hl : Liv d x T) (m : Nat) (hm : m ≤ x.h.f) :
    Calls Tryd.prog 24 #[.pointer (some ⟨g, 0, none⟩), .int .u64 (m : Int)] w fun e w' => e = .returned (.int .i64 0) ∧ w' = w := by
  obtain ⟨⟨sa, sc, F, h1, -⟩, -⟩ := h
  exact strim_low g p x sa sc d n F w h1.s m hl.fl hl.pw.on hm
theorem numAt_low {d : Dst} {x : Lg} {T : List Itm} (h : Liv d x T) (q : Nat) (hq : q ≤ T.length) (hno : ¬ x.h.f < numAt T x.nx q) : q = 0 ∧ numAt T x.nx q = x.h.f := by
  have h0 : q = 0 := by
    cases q with
    | zero => rfl
    | succ q =>
      have hT : 0 < T.length := by omega
      have h1 := h.ch.lt_at (fun t ht => (needS_pos (h.ok t ht).1.len).1) 0 (q + 1) T[0] (by omega) hq (List.getElem?_eq_getElem hT)
      have h2 := (h.ch.le.2 T[0] (List.getElem_mem hT)).1
      omega
  subst h0
  refine ⟨rfl, ?_⟩
  cases T with
  | nil => have h2 : x.h.f = x.nx := h.ch; exact h2.symm
  | cons t r => exact h.ch.1
set_option maxRecDepth 20000 in
set_option maxHeartbeats 6400000 in
/-- trims, where nothing goes -/
theorem ktrims_no {w : World} {kb g p n : Nat} {x : Lg} {d : Dst} {X Y : Nat → Prop} {T : List Itm} {k : Kp} (h : Kst w kb g p x d n X Y T k) (a : Int) (ha1 : -9223372036854775808 ≤ a) (ha2 : a ≤ 9223372036854775807) (q : Nat) (hq : q = spanK a 0 T.length) (hgo : ¬ x.h.f < numAt T x.nx q) (hla : k.last ≤ 65536) :
    Calls Tryd.prog 13 #[.pointer (some ⟨kb, 0, none⟩), .int .i64 a] w fun e w' => e = .returned (.bool true) ∧ KpO w kb g p X Y x d n (T.drop q) k w' := by
  obtain ⟨hA, hL, hKF⟩ := h
  have HA : Hid (KpA w kb g p x d n X Y T k) := hA
  have HLV : Hid (Liv d x T) := hL
  have HKF : Hid (KpF k x) := hKF
  have hqT : q ≤ T.length := by rw [hq]; exact (spanK_in a 0 T.length (Nat.zero_le _)).2
  have hTl : T.length ≤ 65536 := by have := hL.size; have := hL.fit; have := hL.N; have := hL.AZ; omega
  have HSP : Hid (∀ u, Calls _ _ _ u _) := fun u => spanK_t a 0 T.length u ha1 ha2 (Nat.zero_le _) hTl
  rw [← hq] at HSP
  obtain ⟨hq0, hmf⟩ := numAt_low hL q hqT hgo
  obtain ⟨m, hm⟩ : ∃ m, m = numAt T x.nx q := ⟨_, rfl⟩
  rw [← hm] at hmf
  have HTR : Hid (Calls _ _ _ w _) := hA.log.trim_low hL m (by omega)
  have HNX : Hid (Calls _ _ _ w _) := hA.log.next
  obtain ⟨ia, ic, M, hbx, hM, hMc, -, -, -⟩ := hA.boxD
  have HMT : Hid (M = T.length ∧ M ≤ ic ∧ T.length ≤ 65536 ∧ q ≤ T.length ∧ q = 0) := ⟨hM, hMc, hTl, hqT, hq0⟩
  rw [← hM] at HSP hqT hTl
  have hfm : k.fst = m := by rw [hKF.fst, hmf]
  have HFM : Hid (k.fst = m) := hfm
  have hit := hA.item hbx q
  have HIT : Hid (∀ t, T[q]? = some t → m = t.n) := fun t ht => by rw [hm]; unfold numAt; rw [ht]
  have HNA : Hid (T[q]? = none → m = x.nx) := fun ht => by rw [hm]; unfold numAt; rw [ht]
  have HDR : Hid (Calls _ _ _ w _) := kdrop_t hA 0 m (Nat.zero_le _) (fun i t hi _ => absurd hi (by omega)) (fun t ht => by rw [HIT.out t (by rw [hq0]; exact ht)]; exact Nat.le_refl _) (by omega) (by omega)
  obtain ⟨nx, hnxx⟩ : ∃ nx, nx = x.nx := ⟨_, rfl⟩
  rw [← hnxx] at HNX
  have HNN : Hid (nx = x.nx) := hnxx
  have hfmI : ¬ (k.fst : Int) < (m : Int) := by omega
  obtain ⟨-, c1, -, c3, -, c5, -, -, -, -⟩ := cells11 hbx
  have HYK : Hid (Y kb) := by
    obtain ⟨-, ⟨_, _, _, -, -, -, h4, -⟩, -⟩ := HA.out
    exact h4
  have HFIN : Hid (∀ w6, KpA w6 kb g p x d n X Y (T.drop 0) { k with last := k.last - 0, fst := max k.fst m } → Chg (fun b => b = kb) w w6 → KpO w kb g p X Y x d n (T.drop q) k w6 ∧ w6.cell? ⟨kb, 8, none⟩ = some (.bool false)) := fun w6 h6 c6 => by
    have ek : ({ k with last := k.last - 0, fst := max k.fst m } : Kp) = k := by rw [← HFM.out, Nat.max_self]; rfl
    rw [ek, ← HMT.out.2.2.2.2] at h6
    have hd : k.dead = false := HKF.out.dead
    obtain ⟨-, -, -, -, -, -, c80⟩ := h6.cl
    rw [hd] at c80
    have hT0 : T.drop q = T := by rw [HMT.out.2.2.2.2]; rfl
    rw [hT0] at h6 ⊢
    exact ⟨⟨⟨X, Y, ⟨h6, HLV.out, HKF.out⟩, fun _ h => .inl h, fun _ h => .inl h⟩, c6.mono (fun b e => by subst e; exact .inr HYK.out), c6.block _ HA.out.sums.1 (fun e => HA.out.sums.2.1 (e ▸ HYK.out)), ByK.chg c6 (fun b C fr h _ e => by
      obtain ⟨-, ⟨_, _, _, hb00, -⟩, -⟩ := HA.out
      rw [e, hb00] at h; cases h)⟩, c80⟩
  clear hA hL hKF hq hm hgo hbx hM hnxx ha1 ha2 hla hq0 hmf hfm
  go_enter Tryd.func13, Tryd.ntmps13
  have key : ∀ (u : Nat), True := fun _ => trivial
  go_upto_region 3 with first | (go_at_call 9; refine Calls.mono (HSP.out _) ?_; rintro e w' ⟨rfl, hq⟩; have hq := hq.symm; subst hq) | (go_at_call 26; refine Calls.mono HNX.out ?_; rintro e w' ⟨rfl, hq⟩; have hq := hq.symm; subst hq)
  clear key
  by_cases hqM : q < M
  · have hqI : (q : Int) < (M : Int) := by omega
    have hq0 : (0 : Int) ≤ (q : Int) := by omega
    obtain ⟨t, ht⟩ : ∃ t, T[q]? = some t := ⟨_, List.getElem?_eq_getElem (by have := HMT.out; omega)⟩
    obtain ⟨b, o, e1, hcn⟩ := hit t ht
    subst e1
    rw [← HIT.out t ht] at hcn
    have hcz := hcn
    clear hit ht hcn
    have hcn := hcz
    clear hcz
    go_wp2_with first | (go_at_call 24; refine Calls.mono HTR.out ?_; rintro e w' ⟨rfl, hq⟩; have hq := hq.symm; subst hq) | (go_at_call 33; refine Calls.mono HDR.out ?_; rintro e w6 ⟨rfl, hA6, hc6⟩; obtain ⟨ho6, c8⟩ := HFIN.out w6 hA6 hc6; have HO6 : Hid _ := ho6; clear hA6 hc6 ho6)
    go_ret
    exact ⟨by first | rfl | simp, HO6.out⟩
  · have hqI : ¬ (q : Int) < (M : Int) := by omega
    have hno : T[q]? = none := List.getElem?_eq_none_iff.2 (by have := HMT.out; omega)
    have hmn : m = nx := by rw [HNN.out]; exact HNA.out hno
    subst hmn
    clear hit hno
    go_wp2_with first | (go_at_call 24; refine Calls.mono HTR.out ?_; rintro e w' ⟨rfl, hq⟩; have hq := hq.symm; subst hq) | (go_at_call 33; refine Calls.mono HDR.out ?_; rintro e w6 ⟨rfl, hA6, hc6⟩; obtain ⟨ho6, c8⟩ := HFIN.out w6 hA6 hc6; have HO6 : Hid _ := ho6; clear hA6 hc6 ho6)
    go_ret
    exact ⟨by first | rfl | simp, HO6.out⟩
/-- trims -/
theorem ktr_any {w : World} {kb g p n : Nat} {x : Lg} {d : Dst} {X Y : Nat → Prop} {T : List Itm} {k : Kp} (h : Kst w kb g p x d n X Y T k) (a : Int) (ha1 : -9223372036854775808 ≤ a) (ha2 : a ≤ 9223372036854775807) (hla : k.last ≤ 65536) (hg : x.h.g + 1 < 281474976710655) (hn : n + 1 < 1099511627776) (hnx : x.nx < 281474976710655) :
    Calls Tryd.prog 13 #[.pointer (some ⟨kb, 0, none⟩), .int .i64 a] w fun e w' => e = .returned (.bool true) ∧ ∃ x' d' n' k', KpO w kb g p X Y x' d' n' (T.drop (spanK a 0 T.length)) k' w' ∧ Stp 0 x d n T k x' d' n' (T.drop (spanK a 0 T.length)) k' := by
  have hqT : spanK a 0 T.length ≤ T.length := (spanK_in a 0 T.length (Nat.zero_le _)).2
  by_cases hgo : x.h.f < numAt T x.nx (spanK a 0 T.length)
  · refine Calls.mono (ktrims_t h a ha1 ha2 _ rfl hgo hg hn hnx) ?_
    rintro e w' ⟨rfl, ho⟩
    have hTl : T.length ≤ 65536 := by have := h.l.size; have := h.l.fit; have := h.l.N; have := h.l.AZ; omega
    have hq0 : 1 ≤ spanK a 0 T.length := by
      rcases Nat.eq_zero_or_pos (spanK a 0 T.length) with h0 | h0
      · rw [h0] at hgo
        cases T with
        | nil => have h2 : x.h.f = x.nx := h.l.ch; have h3 : x.h.f < x.nx := hgo; omega
        | cons t r => have h2 := h.l.ch.1; have h3 : x.h.f < t.n := hgo; omega
      · exact h0
    refine ⟨rfl, _, _, _, _, ho, ⟨rfl, rfl, Nat.le_refl _, ?_, ?_, h.l.hdOt _, rfl, fun _ => ?_⟩⟩
    · show x.h.g + 1 + (T.drop _).length ≤ _
      rw [List.length_drop]; omega
    · rw [List.length_drop]; omega
    · show T.length - _ ≤ _
      omega
  · refine Calls.mono (ktrims_no h a ha1 ha2 _ rfl hgo hla) ?_
    rintro e w' ⟨rfl, ho⟩
    obtain ⟨hq0, -⟩ := numAt_low h.l _ hqT hgo
    refine ⟨rfl, x, d, n, k, ho, ⟨rfl, rfl, Nat.le_refl _, ?_, ?_, Oth.refl h.l.pw, rfl, id⟩⟩
    · rw [hq0]; exact Nat.le_refl _
    · rw [hq0]; exact Nat.le_refl _
end Go.Proofs.YtibepnilhmbpeaaDoor
namespace Go.Proofs.YtibepnilhmbpeaaDoor
set_option linter.unusedVariables false
set_option linter.unusedSimpArgs false
open Go.RowKit
section
variable {w v : World} {kb g p Z c n : Nat} {x : Lg} {d : Dst} {X Y : Nat → Prop} {T : List Itm} {k : Kp}
/-- what a call leaves of a keeper amid the law; s: an Append -/
structure EnO (w v : World) (kb g p Z c s : Nat) (X Y : Nat → Prop) (T' : List Itm) (k : Kp) (u : World) : Prop where
  ex : ∃ x' d' n' X' Y' k', EnC w u kb g p Z (c + s) x' d' n' X' Y' T' k' ∧ k'.told = k.told + s ∧ (k.last ≤ 65536 → k'.last ≤ 65536) ∧ (∀ b, X' b → X b ∨ v.heap.size ≤ b) ∧ (∀ b, Y' b → Y b ∨ v.heap.size ≤ b)
  chg : Chg (fun b => X b ∨ Y b) v u
  sm : u.heap[0]? = v.heap[0]?
  bk : ByK X v u
theorem EnC.step {u : World} {x' : Lg} {d' : Dst} {n' s : Nat} {T' : List Itm} {k' : Kp} (h : EnC w v kb g p Z c x d n X Y T k) (ho : KpO v kb g p X Y x' d' n' T' k' u) (hs : Stp s x d n T k x' d' n' T' k') : EnO w v kb g p Z c s X Y T' k u := by
  obtain ⟨⟨X', Y', hst, hX, hY⟩, hch, hsm, hbk⟩ := ho
  have h1 := h.nx; have h2 := h.gn; have h3 := h.nn
  have h4 := hs.nx; have h5 := hs.gn; have h6 := hs.nn
  refine ⟨⟨x', d', n', X', Y', k', ⟨hst, hs.Z.trans h.Z, by omega, by omega, by omega, fun b hb => ?_, fun b hb => ?_, h.kept hch hsm⟩, hs.told, hs.last, hX, hY⟩, hch, hsm, hbk⟩
  · rcases hX b hb with h9 | h9
    · exact h.fX b h9
    · exact .inr (Nat.le_trans h.bel.size h9)
  · rcases hY b hb with h9 | h9
    · exact h.fY b h9
    · exact Nat.le_trans h.bel.size h9
theorem EnC.ap (h : EnC w v kb g p Z c x d n X Y T k) (bs : Int) (hb1 : -9223372036854775808 ≤ bs) (hb2 : bs ≤ 9223372036854775807) (ht : k.told ≤ 4194304) (hc : c ≤ 4194304) :
    Calls Tryd.prog 19 #[.pointer (some ⟨kb, 0, none⟩), .int .i64 bs] v fun e u => e = .returned (.bool true) ∧ ∃ T', EnO w v kb g p Z c 1 X Y T' k u ∧ (T' = T ∨ ∃ t, T' = T ++ [t]) := by
  have h1 := h.nx; have h3 := h.nn
  refine Calls.mono (kap_any h.st bs hb1 hb2 (by omega) (by omega) (by omega)) ?_
  rintro e u ⟨rfl, x', d', n', T', k', ho, hs, hT⟩
  exact ⟨rfl, T', h.step ho hs, hT⟩
end
end Go.Proofs.YtibepnilhmbpeaaDoor
