import Derived.Test.YtibepnilhmbpeaaDoorKTg
namespace Go.Proofs.YtibepnilhmbpeaaDoor
set_option linter.unusedVariables false
set_option linter.unusedSimpArgs false
open Go.RowKit
theorem plE_ok {d : Dst} (hp : Pow d) {a z : Nat} (hz : 3 ≤ z) (haz : a + z ≤ d.S.length) : plE d (a : Int) (z : Int) = 0 := by
  unfold plE
  rw [if_neg (by omega), if_neg (by rw [hp.on]; decide)]
theorem Fmt.oth {d d1 : Dst} {a z : Nat} (h : Fmt d d1 a z) : Oth d d1 a z := ⟨h.pw, h.len, fun j h1 h2 => h.out j h1 h2⟩
theorem Fmt.again {d d1 d2 : Dst} {a z A Z : Nat} (h : Fmt d d1 a z) (ho : Oth d1 d2 A Z) (hz : 3 ≤ z) (haz : a + z ≤ d1.S.length) (hd : a + z ≤ A ∨ A + Z ≤ a) : Fmt d2 d2 a z :=
  ⟨ho.pw, rfl, (ho.rd (a + 1) (by omega) (by omega)).trans h.hd, fun j h1 h2 h3 => (ho.rd j (by omega) (by omega)).trans (h.zr j h1 h2 h3), fun _ _ _ => rfl⟩
theorem fmt_at {d : Dst} (hp : Pow d) {A : Int} {a z : Nat} (hA : A = (a : Int)) (hz : 3 ≤ z) (haz : a + z ≤ d.S.length) : ∃ d1, fmE d A (z : Int) = 0 ∧ fmD d A (z : Int) = d1 ∧ Fmt d d1 a z := by
  subst hA
  obtain ⟨hr, hf⟩ := fmt_run hp hz haz
  have h0 := plE_ok hp hz haz
  refine ⟨_, ?_, ?_, hf⟩
  · unfold fmE
    rw [if_neg (fun h => h h0)]
    show opE (runO d (fmtL d a z)).2 = 0
    rw [hr.ok]; rfl
  · unfold fmD
    rw [if_neg (fun h => h h0)]
    rfl
theorem opn_at {d' d : Dst} {A : Int} {a z : Nat} (h : Fmt d' d a z) (hA : A = (a : Int)) (hz : 3 ≤ z) (haz : a + z ≤ d.S.length) (hN : d.S.length ≤ 65536) : ∃ d1, opEZ d A (z : Int) = 0 ∧ opY d A.toNat (z : Int).toNat = ⟨a, z, opH0, 0, [], false⟩ ∧ (runO d (hdO A.toNat (z : Int).toNat (opH d A.toNat (z : Int).toNat))).1 = d1 ∧ Liv d1 ⟨a, z, opH0, 0, [], false⟩ [] ∧ Oth d d1 a z := by
  subst hA
  obtain ⟨hr2, hl⟩ := h.liv hz (by rw [← h.len]; exact haz) (by rw [← h.len]; exact hN)
  refine ⟨_, h.open_ hz (plE_ok h.pw hz haz), h.oy hz, ?_, hl, ⟨hr2.pow, runO_len _ _, fun j hj ho => ?_⟩⟩
  · show (runO _ (hdO a z (opH _ a z))).1 = _
    rw [h.oh hz]
  · rw [hr2.rd j hj, wrO_hd]
    show (if a + 0 = j then _ else _) = _
    rw [if_neg (by omega)]
/-- Format and Open of two places of one disk -/
structure Beg2 (d0 : Dst) (z y : Nat) (d1 d2 d3 d4 : Dst) : Prop where
  f1e : fmE d0 0 (z : Int) = 0
  f1d : fmD d0 0 (z : Int) = d1
  f2e : fmE d1 (z : Int) (y : Int) = 0
  f2d : fmD d1 (z : Int) (y : Int) = d2
  o1e : opEZ d2 0 (z : Int) = 0
  o1y : opY d2 (0 : Int).toNat (z : Int).toNat = ⟨0, z, opH0, 0, [], false⟩
  o1d : (runO d2 (hdO (0 : Int).toNat (z : Int).toNat (opH d2 (0 : Int).toNat (z : Int).toNat))).1 = d3
  o2e : opEZ d3 (z : Int) (y : Int) = 0
  o2y : opY d3 (z : Int).toNat (y : Int).toNat = ⟨z, y, opH0, 0, [], false⟩
  o2d : (runO d3 (hdO (z : Int).toNat (y : Int).toNat (opH d3 (z : Int).toNat (y : Int).toNat))).1 = d4
  l1 : Liv d4 ⟨0, z, opH0, 0, [], false⟩ []
  l2 : Liv d4 ⟨z, y, opH0, 0, [], false⟩ []
theorem beg2_ok {d0 : Dst} (hp : Pow d0) {z y : Nat} (hz : 3 ≤ z) (hy : 3 ≤ y) (hl : d0.S.length = z + y) (hN : z + y ≤ 65536) : ∃ d1 d2 d3 d4, Beg2 d0 z y d1 d2 d3 d4 := by
  obtain ⟨d1, a1, a2, f1⟩ := fmt_at hp (A := 0) (a := 0) (z := z) rfl hz (by omega)
  have L1 := f1.len
  obtain ⟨d2, b1, b2, f2⟩ := fmt_at f1.pw (A := (z : Int)) (a := z) (z := y) rfl hy (by omega)
  have L2 := f2.len
  have g1 : Fmt d2 d2 0 z := f1.again f2.oth hz (by omega) (.inl (by omega))
  obtain ⟨d3, c1, c2, c3, c4, c5⟩ := opn_at g1 (A := 0) rfl hz (by omega) (by omega)
  have L3 := c5.len
  have g2 : Fmt d3 d3 z y := f2.again c5 hy (by omega) (.inr (by omega))
  obtain ⟨d4, e1, e2, e3, e4, e5⟩ := opn_at g2 (A := (z : Int)) rfl hy (by omega) (by omega)
  exact ⟨d1, d2, d3, d4, a1, a2, b1, b2, c1, c2, c3, e1, e2, e3, e5.liv c4 (.inl (by show 0 + z ≤ z; omega)), e4⟩
/-- a keeper's own part: L: its log's blocks, Y: its own -/
structure Prv (w : World) (kb g p : Nat) (x : Lg) (L Y : Nat → Prop) (T : List Itm) (k : Kp) : Prop where
  ex : ∃ sa sc, w.heap[g]? = some (.cells (x.c p sa sc) tLg (0, 0)) ∧ MidG KS w (.slice sa x.L.length sc) x.L ∧ x.L.Pairwise (fun x y => x.n < y.n) ∧ x.L.length ≤ 1000000 ∧ (∀ a, sa = some a → a.block ≠ g) ∧ x.L.length ≤ sc ∧ L g ∧ (∀ a, sa = some a → L a.block)
  it : ∃ ia ic N, w.heap[kb]? = some (.cells (k.c p g (.slice ia N.length ic)) tKp (0, 0)) ∧ MidG KI w (.slice ia N.length ic) N ∧ Its w N T ∧ Y kb ∧ (∀ a, ia = some a → Y a.block) ∧ (∀ (i : Nat) y b, N[i]? = some y → y.v.ownBlock = some b → Y b)
  ly : ∀ b, L b → ¬ Y b
  lt : ∀ b, L b ∨ Y b → b < w.heap.size ∧ b ≠ 0
section
variable {w w' : World} {kb g p n : Nat} {x : Lg} {d : Dst} {F L X Y : Nat → Prop} {T : List Itm} {k : Kp}
theorem Prv.kept (h : Prv w kb g p x L Y T k) (hk : ∀ b, L b ∨ Y b → w'.heap[b]? = w.heap[b]?) (hs : w.heap.size ≤ w'.heap.size) : Prv w' kb g p x L Y T k := by
  obtain ⟨⟨sa, sc, h1, h2, h3, h4, h5, h6, h7, h8⟩, ⟨ia, ic, N, i1, i2, i3, i4, i5, i6⟩, h9, h10⟩ := h
  refine ⟨⟨sa, sc, (hk _ (.inl h7)).trans h1, h2.kept (fun b hb => ?_), h3, h4, h5, h6, h7, h8⟩, ⟨ia, ic, N, (hk _ (.inr i4)).trans i1, i2.kept (fun b hb => ?_), i3.kept (fun i y b hy hb => hk _ (.inr (i6 i y b hy hb))), i4, i5, i6⟩, h9, fun b hb => ⟨Nat.lt_of_lt_of_le (h10 b hb).1 hs, (h10 b hb).2⟩⟩
  · obtain ⟨a, e1, rfl⟩ := SA_blk hb
    exact hk _ (.inl (h8 a e1))
  · obtain ⟨a, e1, rfl⟩ := SA_blk hb
    exact hk _ (.inr (i5 a e1))
theorem Prv.below (h : Prv w kb g p x L Y T k) (hb : Below w.heap.size w w') : Prv w' kb g p x L Y T k := h.kept (fun b hb9 => hb.block b (h.lt b hb9).1) hb.size
/-- a keeper taken apart -/
theorem Kst.part (h : Kst w kb g p x d n X Y T k) : ∃ F L, Prv w kb g p x L Y T k ∧ Dsk w p d n F ∧ ¬ F 0 ∧ TabOk w ∧ (∀ b, F b → X b ∧ ¬ L b) ∧ (∀ b, L b → X b) ∧ (∀ b, X b → ¬ Y b) := by
  obtain ⟨⟨⟨⟨sa, sc, F, h1, h2, h3, h4, h5⟩, h6⟩, hit, hy⟩, hl, hf⟩ := h
  refine ⟨F, fun b => b = g ∨ ∃ a, sa = some a ∧ b = a.block, ⟨⟨sa, sc, h1.s.bx, h1.mid, h1.s.ris, h1.s.len, fun a e => (h1.s.sF a e).2, h1.s.cap, .inl rfl, fun a e => .inr ⟨a, e, rfl⟩⟩, hit, ?_, ?_⟩, h1.s.dk, h1.sums, h1.s.tab, ?_, ?_, fun b hX hY => (hy b hY).2 hX⟩
  · rintro b (rfl | ⟨a, e, rfl⟩) hY
    · exact (hy _ hY).2 h3
    · exact (hy _ hY).2 (h4 a e)
  · rintro b ((rfl | ⟨a, e, rfl⟩) | hY)
    · exact ⟨h6 _ h3, fun e => h1.sg e⟩
    · exact ⟨h6 _ (h4 a e), h1.sumsS a e⟩
    · exact ⟨(hy _ hY).1, fun e => (hy _ hY).2 (e ▸ h5)⟩
  · intro b hb
    refine ⟨h2 b hb, ?_⟩
    rintro (rfl | ⟨a, e, rfl⟩)
    · exact h1.s.gF hb
    · exact (h1.s.sF a e).1 hb
  · rintro b (rfl | ⟨a, e, rfl⟩)
    · exact h3
    · exact h4 a e
/-- and put together -/
theorem Prv.join (h : Prv w kb g p x L Y T k) (hd : Dsk w p d n F) (hS : ¬ F 0) (ht : TabOk w) (hF : ∀ b, F b → ¬ L b ∧ ¬ Y b) (hl : Liv d x T) (hf : KpF k x) : Kst w kb g p x d n (fun b => F b ∨ L b ∨ b = 0) Y T k := by
  obtain ⟨⟨sa, sc, h1, h2, h3, h4, h5, h6, h7, h8⟩, hit, h9, h10⟩ := h
  obtain ⟨a2, c2, e2, -, -, hrd⟩ := h2.val
  injection e2 with e21 e22 e23
  subst e21
  have hS0 := World.block_lt_of_cell? w _ (ht 0)
  have hS0 : 0 < w.heap.size := hS0
  refine ⟨⟨⟨⟨sa, sc, F, ⟨⟨h1, hrd, h3, h4, hd, fun hg => (hF _ hg).1 h7, fun a e => ⟨fun hg => (hF _ hg).1 (h8 a e), h5 a e⟩, h6, hl.Z, hl.AZ, ht⟩, h2, hS, fun a e => (h10 _ (.inl (h8 a e))).2⟩, fun b hb => .inl hb, .inr (.inl h7), fun a e => .inr (.inl (h8 a e)), .inr (.inr rfl)⟩, ?_⟩, hit, ?_⟩, hl, hf⟩
  · rintro b (hb | hb | rfl)
    · exact hd.lt b hb
    · exact (h10 b (.inl hb)).1
    · exact hS0
  · intro b hY
    refine ⟨(h10 b (.inr hY)).1, ?_⟩
    rintro (hb | hb | hb)
    · exact (hF b hb).2 hY
    · exact h9 b hb hY
    · exact (h10 b (.inr hY)).2 hb
end
end Go.Proofs.YtibepnilhmbpeaaDoor
namespace Go.Proofs.YtibepnilhmbpeaaDoor
set_option linter.unusedVariables false
set_option linter.unusedSimpArgs false
open Go.RowKit
/-- two keepers of one disk; c: how many Appends there were -/
structure Duo (w v : World) (p c : Nat) (d : Dst) (n : Nat) (F : Nat → Prop) (kb1 g1 : Nat) (x1 : Lg) (L1 Y1 : Nat → Prop) (T1 : List Itm) (k1 : Kp) (kb2 g2 : Nat) (x2 : Lg) (L2 Y2 : Nat → Prop) (T2 : List Itm) (k2 : Kp) : Prop where
  dk : Dsk v p d n F
  nS : ¬ F 0
  tab : TabOk v
  a1 : Prv v kb1 g1 p x1 L1 Y1 T1 k1
  a2 : Prv v kb2 g2 p x2 L2 Y2 T2 k2
  f1 : ∀ b, F b → ¬ L1 b ∧ ¬ Y1 b
  f2 : ∀ b, F b → ¬ L2 b ∧ ¬ Y2 b
  ap : ∀ b, (L1 b ∨ Y1 b) → ¬ (L2 b ∨ Y2 b)
  l1 : Liv d x1 T1
  l2 : Liv d x2 T2
  q1 : KpF k1 x1
  q2 : KpF k2 x2
  rg : x1.A + x1.Z ≤ x2.A ∨ x2.A + x2.Z ≤ x1.A
  nx1 : x1.nx ≤ 79 * c
  nx2 : x2.nx ≤ 79 * c
  gn1 : x1.h.g + T1.length ≤ 2 + c
  gn2 : x2.h.g + T2.length ≤ 2 + c
  nn : n + T1.length + T2.length ≤ 131076 + 80 * c
  td1 : k1.told ≤ 1048576 + c
  td2 : k2.told ≤ 1048576 + c
  la1 : k1.last ≤ 65536
  la2 : k2.last ≤ 65536
  fr : ∀ b, (F b ∨ L1 b ∨ Y1 b ∨ L2 b ∨ Y2 b) → w.heap.size ≤ b
  bel : Below w.heap.size w v
section
variable {w v u : World} {p c n kb1 g1 kb2 g2 : Nat} {d : Dst} {F L1 Y1 L2 Y2 : Nat → Prop} {x1 x2 : Lg} {T1 T2 : List Itm} {k1 k2 : Kp}
theorem Duo.swap (h : Duo w v p c d n F kb1 g1 x1 L1 Y1 T1 k1 kb2 g2 x2 L2 Y2 T2 k2) : Duo w v p c d n F kb2 g2 x2 L2 Y2 T2 k2 kb1 g1 x1 L1 Y1 T1 k1 :=
  ⟨h.dk, h.nS, h.tab, h.a2, h.a1, h.f2, h.f1, fun b h1 h2 => h.ap b h2 h1, h.l2, h.l1, h.q2, h.q1, h.rg.symm, h.nx2, h.nx1, h.gn2, h.gn1, by have := h.nn; omega, h.td2, h.td1, h.la2, h.la1, fun b hb => h.fr b (by
    rcases hb with hb | hb | hb | hb | hb
    · exact .inl hb
    · exact .inr (.inr (.inr (.inl hb)))
    · exact .inr (.inr (.inr (.inr hb)))
    · exact .inr (.inl hb)
    · exact .inr (.inr (.inl hb))), h.bel⟩
theorem Duo.below (h : Duo w v p c d n F kb1 g1 x1 L1 Y1 T1 k1 kb2 g2 x2 L2 Y2 T2 k2) (hb : Below v.heap.size v u) : Duo w u p c d n F kb1 g1 x1 L1 Y1 T1 k1 kb2 g2 x2 L2 Y2 T2 k2 :=
  ⟨h.dk.below hb, h.nS, h.tab.below hb, h.a1.below hb, h.a2.below hb, h.f1, h.f2, h.ap, h.l1, h.l2, h.q1, h.q2, h.rg, h.nx1, h.nx2, h.gn1, h.gn2, h.nn, h.td1, h.td2, h.la1, h.la2, h.fr, below_next h.bel hb⟩
theorem Duo.kst (h : Duo w v p c d n F kb1 g1 x1 L1 Y1 T1 k1 kb2 g2 x2 L2 Y2 T2 k2) : Kst v kb1 g1 p x1 d n (fun b => F b ∨ L1 b ∨ b = 0) Y1 T1 k1 := h.a1.join h.dk h.nS h.tab h.f1 h.l1 h.q1
/-- a change of F, L1, Y1 alone -/
theorem Duo.kept (h : Duo w v p c d n F kb1 g1 x1 L1 Y1 T1 k1 kb2 g2 x2 L2 Y2 T2 k2) (hch : Chg (fun b => (F b ∨ L1 b ∨ b = 0) ∨ Y1 b) v u) (hsm : u.heap[0]? = v.heap[0]?) : Below w.heap.size w u ∧ Prv u kb2 g2 p x2 L2 Y2 T2 k2 := by
  refine ⟨⟨hch.os.trans h.bel.os, hch.tape.trans h.bel.tape, hch.output.trans h.bel.output, Nat.le_trans h.bel.size hch.size, fun b hb => ?_⟩, h.a2.kept (fun b hb => hch.block b (h.a2.lt b hb).1 ?_) hch.size⟩
  · refine Eq.trans ?_ (h.bel.block b hb)
    by_cases e : b = 0
    · rw [e]; exact hsm
    · refine hch.block b (Nat.lt_of_lt_of_le hb h.bel.size) ?_
      rintro ((h9 | h9 | h9) | h9)
      · have := h.fr b (.inl h9); omega
      · have := h.fr b (.inr (.inl h9)); omega
      · exact e h9
      · have := h.fr b (.inr (.inr (.inl h9))); omega
  · rintro ((h9 | h9 | h9) | h9)
    · exact hb.elim (h.f2 b h9).1 (h.f2 b h9).2
    · exact h.ap b (.inl h9) hb
    · exact (h.a2.lt b hb).2 h9
    · exact h.ap b (.inr h9) hb
theorem Duo.step {s n' : Nat} {x' : Lg} {d' : Dst} {T' : List Itm} {k' : Kp} (h : Duo w v p c d n F kb1 g1 x1 L1 Y1 T1 k1 kb2 g2 x2 L2 Y2 T2 k2) (ho : KpO v kb1 g1 p (fun b => F b ∨ L1 b ∨ b = 0) Y1 x' d' n' T' k' u) (hs : Stp s x1 d n T1 k1 x' d' n' T' k') : ∃ F' L' Y', Duo w u p (c + s) d' n' F' kb1 g1 x' L' Y' T' k' kb2 g2 x2 L2 Y2 T2 k2 := by
  obtain ⟨⟨X', Y', hst, hX, hY⟩, hch, hsm, -⟩ := ho
  obtain ⟨F', L', hP, hD, hS, hT, hF, hL, hXY⟩ := hst.part
  obtain ⟨hbel, hP2⟩ := h.kept hch hsm
  have hvs := h.bel.size
  have old : ∀ b, X' b → b ≠ 0 → (F b ∨ L1 b) ∨ v.heap.size ≤ b := fun b hb hn => by
    rcases hX b hb with (h9 | h9 | h9) | h9
    · exact .inl (.inl h9)
    · exact .inl (.inr h9)
    · exact absurd h9 hn
    · exact .inr h9
  have n2 : ∀ b, ((F b ∨ L1 b) ∨ v.heap.size ≤ b) → ¬ (L2 b ∨ Y2 b) := fun b hb h9 => by
    rcases hb with (h8 | h8) | h8
    · exact h9.elim (h.f2 b h8).1 (h.f2 b h8).2
    · exact h.ap b (.inl h8) h9
    · have := (h.a2.lt b h9).1; omega
  have m2 : ∀ b, Y' b → ¬ (L2 b ∨ Y2 b) := fun b hb h9 => by
    rcases hY b hb with h8 | h8
    · exact h.ap b (.inr h8) h9
    · have := (h.a2.lt b h9).1; omega
  have fO : ∀ b, ((F b ∨ L1 b) ∨ v.heap.size ≤ b) → w.heap.size ≤ b := fun b hb => by
    rcases hb with (h8 | h8) | h8
    · exact h.fr b (.inl h8)
    · exact h.fr b (.inr (.inl h8))
    · omega
  have FS : ∀ b, F' b → b ≠ 0 := fun b hb e => hS (e ▸ hb)
  have LS : ∀ b, L' b → b ≠ 0 := fun b hb => (hP.lt b (.inl hb)).2
  have h1 := hs.nx; have h2 := hs.gn; have h3 := hs.nn; have h4 := h.nx1; have h5 := h.gn1; have h6 := h.nn; have h7 := h.nx2; have h8 := h.gn2; have h9 := h.td1; have h10 := h.td2; have h11 := hs.told
  refine ⟨F', L', Y', ⟨hD, hS, hT, hP, hP2, fun b hb => ⟨(hF b hb).2, hXY b (hF b hb).1⟩, fun b hb => ?_, fun b hb => ?_, hst.l, hs.ot.liv h.l2 h.rg.symm, hst.f, h.q2, by rw [hs.A, hs.Z]; exact h.rg, by omega, by omega, by omega, by omega, by omega, by omega, by omega, hs.last h.la1, h.la2, ?_, hbel⟩⟩
  · have hb9 := n2 b (old b (hF b hb).1 (FS b hb))
    exact ⟨fun h => hb9 (.inl h), fun h => hb9 (.inr h)⟩
  · rcases hb with hb | hb
    · exact n2 b (old b (hL b hb) (LS b hb))
    · exact m2 b hb
  · rintro b (hb | hb | hb | hb | hb)
    · exact fO b (old b (hF b hb).1 (FS b hb))
    · exact fO b (old b (hL b hb) (LS b hb))
    · rcases hY b hb with h8 | h8
      · exact h.fr b (.inr (.inr (.inl h8)))
      · omega
    · exact h.fr b (.inr (.inr (.inr (.inl hb))))
    · exact h.fr b (.inr (.inr (.inr (.inr hb))))
end
/-- two keepers of one disk, whatever they hold -/
structure DuE (w : World) (p kb1 g1 kb2 g2 c : Nat) (v : World) : Prop where
  ex : ∃ d n F x1 L1 Y1 T1 k1 x2 L2 Y2 T2 k2, Duo w v p c d n F kb1 g1 x1 L1 Y1 T1 k1 kb2 g2 x2 L2 Y2 T2 k2
section
variable {w v u : World} {p c kb1 g1 kb2 g2 : Nat}
theorem DuE.swap (h : DuE w p kb1 g1 kb2 g2 c v) : DuE w p kb2 g2 kb1 g1 c v := by
  obtain ⟨d, n, F, x1, L1, Y1, T1, k1, x2, L2, Y2, T2, k2, h⟩ := h.ex
  exact ⟨_, _, _, _, _, _, _, _, _, _, _, _, _, h.swap⟩
theorem DuE.below (h : DuE w p kb1 g1 kb2 g2 c v) (hb : Below v.heap.size v u) : DuE w p kb1 g1 kb2 g2 c u := by
  obtain ⟨d, n, F, x1, L1, Y1, T1, k1, x2, L2, Y2, T2, k2, h⟩ := h.ex
  exact ⟨_, _, _, _, _, _, _, _, _, _, _, _, _, h.below hb⟩
theorem DuE.bel (h : DuE w p kb1 g1 kb2 g2 c v) : Below w.heap.size w v := by
  obtain ⟨d, n, F, x1, L1, Y1, T1, k1, x2, L2, Y2, T2, k2, h⟩ := h.ex
  exact h.bel
theorem DuE.mono {c' : Nat} (h : DuE w p kb1 g1 kb2 g2 c v) (hc : c ≤ c') : DuE w p kb1 g1 kb2 g2 c' v := by
  obtain ⟨d, n, F, x1, L1, Y1, T1, k1, x2, L2, Y2, T2, k2, h⟩ := h.ex
  have h4 := h.nx1; have h5 := h.gn1; have h6 := h.nn; have h7 := h.nx2; have h8 := h.gn2; have h9 := h.td1; have h10 := h.td2
  exact ⟨_, _, _, _, _, _, _, _, _, _, _, _, _, h.dk, h.nS, h.tab, h.a1, h.a2, h.f1, h.f2, h.ap, h.l1, h.l2, h.q1, h.q2, h.rg, by omega, by omega, by omega, by omega, by omega, by omega, by omega, h.la1, h.la2, h.fr, h.bel⟩
theorem DuE.app (h : DuE w p kb1 g1 kb2 g2 c v) (bs : Int) (hb1 : -9223372036854775808 ≤ bs) (hb2 : bs ≤ 9223372036854775807) (hc : c ≤ 4194304) :
    Calls Tryd.prog 19 #[.pointer (some ⟨kb1, 0, none⟩), .int .i64 bs] v fun e u => e = .returned (.bool true) ∧ DuE w p kb1 g1 kb2 g2 (c + 1) u := by
  obtain ⟨d, n, F, x1, L1, Y1, T1, k1, x2, L2, Y2, T2, k2, h⟩ := h.ex
  have h4 := h.nx1; have h6 := h.nn; have h9 := h.td1
  refine Calls.mono (kap_any h.kst bs hb1 hb2 (by omega) (by omega) (by omega)) ?_
  rintro e u ⟨rfl, x', d', n', T', k', ho, hs, -⟩
  obtain ⟨F', L', Y', h'⟩ := h.step ho hs
  exact ⟨rfl, _, _, _, _, _, _, _, _, _, _, _, _, _, h'⟩
theorem DuE.trm (h : DuE w p kb1 g1 kb2 g2 c v) (a : Int) (hb1 : -9223372036854775808 ≤ a) (hb2 : a ≤ 9223372036854775807) (hc : c ≤ 4194304) :
    Calls Tryd.prog 13 #[.pointer (some ⟨kb1, 0, none⟩), .int .i64 a] v fun e u => e = .returned (.bool true) ∧ DuE w p kb1 g1 kb2 g2 c u := by
  obtain ⟨d, n, F, x1, L1, Y1, T1, k1, x2, L2, Y2, T2, k2, h⟩ := h.ex
  have h4 := h.nx1; have h6 := h.nn; have h9 := h.gn1
  refine Calls.mono (ktr_any h.kst a hb1 hb2 h.la1 (by omega) (by omega) (by omega)) ?_
  rintro e u ⟨rfl, x', d', n', k', ho, hs⟩
  obtain ⟨F', L', Y', h'⟩ := h.step ho hs
  exact ⟨rfl, _, _, _, _, _, _, _, _, _, _, _, _, _, h'⟩
theorem DuE.is_ (h : DuE w p kb1 g1 kb2 g2 c v) (hc : c ≤ 4194304) :
    Calls Tryd.prog 15 #[.pointer (some ⟨kb1, 0, none⟩)] v fun e u => e = .returned (.bool true) ∧ DuE w p kb1 g1 kb2 g2 c u := by
  have h0 := h
  obtain ⟨d, n, F, x1, L1, Y1, T1, k1, x2, L2, Y2, T2, k2, h⟩ := h.ex
  have h4 := h.nx1
  refine Calls.mono (kis_t h.kst (by omega)) ?_
  rintro e u ⟨rfl, hb⟩
  exact ⟨rfl, h0.below hb⟩
theorem DuE.flush (h : DuE w p kb1 g1 kb2 g2 c v) :
    Calls Tryd.prog 20 #[.pointer (some ⟨p, 0, none⟩)] v fun e u => e = .returned (.int .i64 0) ∧ DuE w p kb1 g1 kb2 g2 c u := by
  obtain ⟨d, n, F, x1, L1, Y1, T1, k1, x2, L2, Y2, T2, k2, h⟩ := h.ex
  have hf := h.dk.flush
  rw [h.l1.pw.can] at hf
  refine Calls.mono hf ?_
  rintro e u ⟨rfl, hl⟩
  obtain ⟨F', hD, hF⟩ := hl.ex
  have hsm : u.heap[0]? = v.heap[0]? := hl.chg.block _ (World.block_lt_of_cell? v _ (h.tab 0)) h.nS
  have hvs := h.bel.size
  have hk : ∀ b, ((L1 b ∨ Y1 b) ∨ (L2 b ∨ Y2 b)) → u.heap[b]? = v.heap[b]? := fun b hb => hl.chg.block b (hb.elim (fun h9 => (h.a1.lt b h9).1) (fun h9 => (h.a2.lt b h9).1)) (fun hF9 => by
    rcases hb with (h9 | h9) | (h9 | h9)
    · exact (h.f1 b hF9).1 h9
    · exact (h.f1 b hF9).2 h9
    · exact (h.f2 b hF9).1 h9
    · exact (h.f2 b hF9).2 h9)
  have nS : ¬ F' 0 := fun h9 => by
    rcases hF _ h9 with h8 | h8
    · exact h.nS h8
    · have h7 := World.block_lt_of_cell? v _ (h.tab 0)
      have h7 : 0 < v.heap.size := h7
      omega
  refine ⟨rfl, d.flush, n, F', x1, L1, Y1, T1, k1, x2, L2, Y2, T2, k2, hD, nS, h.tab.chg hl.chg h.nS, h.a1.kept (fun b hb => hk b (.inl hb)) hl.chg.size, h.a2.kept (fun b hb => hk b (.inr hb)) hl.chg.size, fun b hb => ?_, fun b hb => ?_, h.ap, h.l1.flush, h.l2.flush, h.q1, h.q2, h.rg, h.nx1, h.nx2, h.gn1, h.gn2, h.nn, h.td1, h.td2, h.la1, h.la2, ?_, ?_⟩
  · rcases hF b hb with h9 | h9
    · exact h.f1 b h9
    · exact ⟨fun h8 => by have := (h.a1.lt b (.inl h8)).1; omega, fun h8 => by have := (h.a1.lt b (.inr h8)).1; omega⟩
  · rcases hF b hb with h9 | h9
    · exact h.f2 b h9
    · exact ⟨fun h8 => by have := (h.a2.lt b (.inl h8)).1; omega, fun h8 => by have := (h.a2.lt b (.inr h8)).1; omega⟩
  · rintro b (hb | hb)
    · rcases hF b hb with h9 | h9
      · exact h.fr b (.inl h9)
      · omega
    · exact h.fr b (.inr hb)
  · exact h.bel.trans (hl.chg.below (fun i hi => h.fr i (.inl hi)) hvs)
end
end Go.Proofs.YtibepnilhmbpeaaDoor
namespace Go.Proofs.YtibepnilhmbpeaaDoor
set_option linter.unusedVariables false
set_option linter.unusedSimpArgs false
open Go.RowKit
section
variable {u w : World} {kb g p n : Nat} {x : Lg} {d : Dst} {F : Nat → Prop} {k : Kp} {sa : Option Addr} {sc : Nat}
abbrev lgB (g : Nat) (sa : Option Addr) : Nat → Prop := fun b => b = g ∨ ∃ a, sa = some a ∧ b = a.block
theorem LogM.own_lt (h : LogM u g p x sa sc d n F) : ∀ b, lgB g sa b → b < u.heap.size ∧ b ≠ 0 ∧ ¬ F b := by
  rintro b (rfl | ⟨a, e, rfl⟩)
  · exact ⟨(Array.getElem?_eq_some_iff.1 h.s.bx).1, h.sg, h.s.gF⟩
  · exact ⟨h.slt a e, h.sumsS a e, (h.s.sF a e).1⟩
/-- a keeper that is new -/
theorem LogM.prv (hm : LogM u g p x sa sc d n F) (hk : ∀ b, lgB g sa b → w.heap[b]? = u.heap[b]?) (hs : u.heap.size ≤ w.heap.size) (hbx : w.heap[kb]? = some (.cells (k.c p g (.slice none 0 0)) tKp (0, 0))) (hkb : u.heap.size ≤ kb) : Prv w kb g p x (lgB g sa) (fun b => b = kb) [] k := by
  have hS := hm.sz
  have hk5 := (Array.getElem?_eq_some_iff.1 hbx).1
  refine ⟨⟨sa, sc, (hk g (.inl rfl)).trans hm.s.bx, hm.mid.kept (fun b hb => ?_), hm.s.ris, hm.s.len, fun a e => (hm.s.sF a e).2, hm.s.cap, .inl rfl, fun a e => .inr ⟨a, e, rfl⟩⟩, ⟨none, 0, [], hbx, ⟨(fun b hb => by cases hb), .inl ⟨none, rfl, rfl⟩⟩, ⟨rfl, fun i y t h => by simp at h⟩, rfl, (fun a e => by cases e), (fun i y b h => by simp at h)⟩, ?_, ?_⟩
  · obtain ⟨a, e1, rfl⟩ := SA_blk hb
    exact hk _ (.inr ⟨a, e1, rfl⟩)
  · rintro b hb rfl
    have := (hm.own_lt _ hb).1
    omega
  · rintro b (hb | rfl)
    · have := hm.own_lt _ hb
      exact ⟨by omega, this.2.1⟩
    · exact ⟨hk5, by omega⟩
end
end Go.Proofs.YtibepnilhmbpeaaDoor
