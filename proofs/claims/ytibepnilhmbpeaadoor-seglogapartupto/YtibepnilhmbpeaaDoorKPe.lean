import Derived.Test.YtibepnilhmbpeaaDoorKPb
import Derived.Test.YtibepnilhmbpeaaDoorSNe
namespace Go.Proofs.YtibepnilhmbpeaaDoor
set_option linter.unusedVariables false
set_option linter.unusedSimpArgs false
open Go.RowKit
/-- the keeper's numbers are the log's -/
structure KpF (k : Kp) (x : Lg) : Prop where
  size : k.size = x.Z
  fst : k.fst = x.h.f
  ep : k.ep = x.h.e
  dead : k.dead = false
abbrev dz (N : Nat) : Dst := ⟨List.replicate N Sec.zero, fun _ => [], false, -1⟩
/-- what begin makes -/
structure BeOut (w : World) (N : Nat) (e : Ending) (w' : World) : Prop where
  ex : ∃ kb g p d X Y, e = .returned (.tuple #[.pointer (some ⟨kb, 0, none⟩), .bool true]) ∧ KpA w' kb g p ⟨2, N, opH0, 0, [], false⟩ d 65538 X Y [] ⟨N, 0, 0, 0, 1, false, 0⟩ ∧ Liv d ⟨2, N, opH0, 0, [], false⟩ [] ∧ (∀ b, X b → b = 0 ∨ w.heap.size ≤ b) ∧ (∀ b, Y b → w.heap.size ≤ b)
  bel : Below w.heap.size w w'
set_option maxRecDepth 20000 in
set_option maxHeartbeats 6400000 in
theorem kbegin_t {w : World} (bs : Int) (hb1 : -9223372036854775808 ≤ bs) (hb2 : bs ≤ 9223372036854775807) (ht : TabOk w) :
    Calls Tryd.prog 8 #[.int .i64 bs] w fun e w' => BeOut w (spanK bs 3 65531) e w' := by
  have HSP : Hid (∀ u, Calls _ _ _ u _) := fun u => spanK_t bs 3 65531 u hb1 hb2 (by decide) (by decide)
  obtain ⟨N, hN⟩ : ∃ N, N = spanK bs 3 65531 := ⟨_, rfl⟩
  have hmi := spanK_in bs 3 65531 (by decide)
  rw [← hN] at HSP hmi ⊢
  have hN5 : IntKind.i64.wrap ((N : Int) + 5) = ((N + 5 : Nat) : Int) := by rw [IntKind.wrap_i64]; omega
  have hp0 : Pow (dz (N + 5)) := ⟨rfl, rfl⟩
  obtain ⟨d1, d2, hbg⟩ := beg_ok (d := dz (N + 5)) hp0 (A := 2) (a := 2) (z := N) rfl hmi.1 (by rw [List.length_replicate]; omega) (by rw [List.length_replicate]; omega)
  have HBG : Hid (Beg (dz (N + 5)) 2 2 N d1 d2) := hbg
  have HNW : Hid (∀ u, Calls _ _ _ u _) := fun u => Dsk.new (N + 5) (by omega) (by omega) u
  have HT : Hid (TabOk w) := ht
  have HNI : Hid (3 ≤ N ∧ N ≤ 65531) := hmi
  clear hN hbg hp0 ht
  go_enter Tryd.func8, Tryd.ntmps8
  go_upto_region 3 with first | (go_at_call 9; refine Calls.mono (HSP.out _) ?_; rintro e w' ⟨rfl, hq⟩; have hq := hq.symm; subst hq) | (go_at_call 16; refine Calls.mono (HNW.out _) ?_; rintro e u1 ⟨p, F, rfl, hd, hF, hb⟩; have HD : Hid (Dsk u1 p (dz (N + 5)) 0 F) := hd; have HF : Hid (∀ b, F b → w.heap.size ≤ b) := hF; have HB1 : Hid (Below w.heap.size w u1) := hb; clear hd hF hb)
  have hfm := Format_t HD.out 2 (N : Int) (by decide) (by decide) (HT.out.below HB1.out) (fun h9 => by have := HF.out _ h9; have h8 := World.block_lt_of_cell? w _ (HT.out 0); have h8 : 0 < w.heap.size := h8; omega)
  rw [HBG.out.fe, HBG.out.fd] at hfm
  have HFM : Hid (Calls _ _ _ u1 _) := hfm
  clear hfm
  go_upto_region 5 with (go_at_call 17; refine Calls.mono HFM.out ?_; rintro e u2 ⟨rfl, hl⟩; have HL : Hid _ := hl; clear hl)
  obtain ⟨F2, hd2, hF2⟩ := HL.out.ex
  have hb2 : Below w.heap.size w u2 := HB1.out.trans (HL.out.chg.below (fun i hi => HF.out i hi) HB1.out.size)
  have hF2' : ∀ b, F2 b → w.heap.size ≤ b := fun b hb => (hF2 b hb).elim (HF.out b) (fun h => Nat.le_trans HB1.out.size h)
  have hS2 : ¬ F2 0 := fun h9 => by have := hF2' _ h9; have h8 := World.block_lt_of_cell? w _ (HT.out 0); have h8 : 0 < w.heap.size := h8; omega
  have HOP : Hid (Calls _ _ _ u2 _) := Open_t hd2 2 (N : Int) (by decide) (by decide) (HT.out.below hb2) hS2
  have HB2 : Hid (Below w.heap.size w u2) := hb2
  have HF2 : Hid (∀ b, F2 b → w.heap.size ≤ b) := hF2'
  clear hd2 hF2 hb2 hF2' hS2
  go_upto_region 6 with (go_at_call 18; refine Calls.mono HOP.out ?_; rintro e u3 hq; obtain ⟨g, sa, sc, F3, he3, hm3, r2, r3, r4, r5⟩ := hq.ok HBG.out.oe; subst he3; rw [HBG.out.oy, HBG.out.od] at hm3; have HM3 : Hid (LogM u3 g p ⟨2, N, opH0, 0, [], false⟩ sa sc d2 65538 F3) := hm3; have HR3 : Hid ((∀ b, F3 b → F2 b ∨ u2.heap.size ≤ b) ∧ u2.heap.size ≤ g ∧ (∀ a, sa = some a → u2.heap.size ≤ a.block) ∧ Chg F2 u2 u3) := ⟨r2, r3, r4, r5⟩; clear hq hm3 r2 r3 r4 r5)
  have HC1 : Hid (∀ u, Below u3.heap.size u3 u → Calls _ _ _ u _) := fun u hu => sfirst_t g p _ sa sc u (HM3.out.below hu).s.bx
  have HC2 : Hid (∀ u, Below u3.heap.size u3 u → Calls _ _ _ u _) := fun u hu => snext_t g p _ sa sc u (HM3.out.below hu).s.bx
  have HC3 : Hid (∀ u, Below u3.heap.size u3 u → Calls _ _ _ u _) := fun u hu => sepoch_t g p _ sa sc u (HM3.out.below hu).s.bx
  have hfr := sfree_t g p _ sa sc u3 HM3.out.s.bx (by have := HNI.out; show 2 ≤ N; omega) (by have := HNI.out; show N ≤ 65536; omega) (by show 0 ≤ _; omega) (by show 0 ≤ _; omega)
  obtain ⟨fr, hfe⟩ : ∃ fr, fr = (⟨2, N, opH0, 0, [], false⟩ : Lg).free := ⟨_, rfl⟩
  rw [← hfe] at hfr
  have HC4 : Hid (Calls _ _ _ u3 _) := hfr
  have hfe2 : fr = N - 2 := by rw [hfe]; show 0 + (N - 2) - 0 = N - 2; omega
  have hfw : IntKind.i64.wrap ((N : Int) - 2) = (fr : Int) := by have := HNI.out; rw [IntKind.wrap_i64]; omega
  clear hfr hfe hfe2
  go_wp2_with first | (go_at_call 25; refine Calls.mono (HC1.out _ (Below.refl _ _)) ?_; rintro e w' ⟨rfl, hq⟩; have hq := hq.symm; subst hq) | (go_at_call 26; refine Calls.mono (HC2.out _ (Below.refl _ _)) ?_; rintro e w' ⟨rfl, hq⟩; have hq := hq.symm; subst hq) | (go_at_call 27; refine Calls.mono (HC3.out _ (Below.refl _ _)) ?_; rintro e w' ⟨rfl, hq⟩; have hq := hq.symm; subst hq) | (go_at_call 12; refine Calls.mono HC4.out ?_; rintro e u4 ⟨rfl, hu4⟩; have HU4 : Hid (Below u3.heap.size u3 u4) := hu4; clear hu4)
  go_ret2
  have hbx : (u4.alloc (.cells #[.pointer (some ⟨p, 0, none⟩), .pointer (some ⟨g, 0, none⟩), .int .i64 (N : Int), .slice none 0 0, .int .i64 0, .int .u64 0, .int .u64 0, .int .u64 1, .bool false, .int .i64 0, .int .i64 0] tKp)).heap[u4.heap.size]? = some (.cells (Kp.c ⟨N, 0, 0, 0, 1, false, 0⟩ p g (.slice none 0 0)) tKp (0, 0)) := heap_alloc_new _ _
  have hb5 : Below u4.heap.size u4 (u4.alloc (.cells #[.pointer (some ⟨p, 0, none⟩), .pointer (some ⟨g, 0, none⟩), .int .i64 (N : Int), .slice none 0 0, .int .i64 0, .int .u64 0, .int .u64 0, .int .u64 1, .bool false, .int .i64 0, .int .i64 0] tKp)) := alS (Below.refl _ _) _
  change BeOut w N _ (u4.alloc (.cells #[.pointer (some ⟨p, 0, none⟩), .pointer (some ⟨g, 0, none⟩), .int .i64 (N : Int), .slice none 0 0, .int .i64 0, .int .u64 0, .int .u64 0, .int .u64 1, .bool false, .int .i64 0, .int .i64 0] tKp))
  generalize (u4.alloc (.cells #[.pointer (some ⟨p, 0, none⟩), .pointer (some ⟨g, 0, none⟩), .int .i64 (N : Int), .slice none 0 0, .int .i64 0, .int .u64 0, .int .u64 0, .int .u64 1, .bool false, .int .i64 0, .int .i64 0] tKp)) = W5 at *
  have hb35 : Below u3.heap.size u3 W5 := below_next HU4.out hb5
  have hm := HM3.out.below hb35
  have hsz := HB2.out.size
  have hu34 := HU4.out.size
  have hg3 := (Array.getElem?_eq_some_iff.1 HM3.out.s.bx).1
  have hk5 := (Array.getElem?_eq_some_iff.1 hbx).1
  have hX : ∀ b, (F3 b ∨ b = g ∨ (∃ a, sa = some a ∧ b = a.block) ∨ b = 0) → b < u3.heap.size := by
    rintro b (h9 | rfl | ⟨a, e, rfl⟩ | rfl)
    · exact HM3.out.s.dk.lt b h9
    · exact hg3
    · exact HM3.out.slt a e
    · exact HM3.out.sz
  refine ⟨⟨u4.heap.size, g, p, d2, fun b => F3 b ∨ b = g ∨ (∃ a, sa = some a ∧ b = a.block) ∨ b = 0, fun b => b = u4.heap.size, rfl, ⟨⟨⟨sa, sc, F3, hm, fun b h => .inl h, .inr (.inl rfl), fun a e => .inr (.inr (.inl ⟨a, e, rfl⟩)), .inr (.inr (.inr rfl))⟩, fun b hb => Nat.lt_of_lt_of_le (hX b hb) hb35.size⟩, ⟨none, 0, [], hbx, ⟨(fun b hb => by cases hb), .inl ⟨none, rfl, rfl⟩⟩, ⟨rfl, fun i y t h => by simp at h⟩, rfl, (fun a e => by cases e), (fun i y b h => by simp at h)⟩, ?_⟩, HBG.out.lv, ?_, ?_⟩, ?_⟩
  · rintro b rfl
    exact ⟨hk5, fun h9 => by have := hX _ h9; omega⟩
  · rintro b (h9 | rfl | ⟨a, e, rfl⟩ | rfl)
    · rcases HR3.out.1 b h9 with h8 | h8
      · exact .inr (HF2.out b h8)
      · exact .inr (by omega)
    · exact .inr (by have := HR3.out.2.1; omega)
    · exact .inr (by have := HR3.out.2.2.1 a e; omega)
    · exact .inl rfl
  · rintro b rfl
    have := HR3.out.2.2.2.size
    omega
  · exact (HB2.out.trans (HR3.out.2.2.2.below (fun i hi => HF2.out i hi) HB2.out.size)).trans (hb35.mono (by have := HR3.out.2.2.2.size; omega))
end Go.Proofs.YtibepnilhmbpeaaDoor
namespace Go.Proofs.YtibepnilhmbpeaaDoor
set_option linter.unusedVariables false
set_option linter.unusedSimpArgs false
open Go.RowKit
section
variable {w w' : World} {kb g p n : Nat} {x : Lg} {d : Dst} {X Y : Nat → Prop} {T : List Itm} {k : Kp}
theorem LogX.next (h : LogX w g p x d n X) : Calls Tryd.prog 26 #[.pointer (some ⟨g, 0, none⟩)] w fun e w' => e = .returned (.int .u64 (x.nx : Int)) ∧ w' = w := by
  obtain ⟨⟨sa, sc, F, h1, -⟩, -⟩ := h
  exact snext_t g p x sa sc w h1.s.bx
theorem LogX.first (h : LogX w g p x d n X) : Calls Tryd.prog 25 #[.pointer (some ⟨g, 0, none⟩)] w fun e w' => e = .returned (.int .u64 (x.h.f : Int)) ∧ w' = w := by
  obtain ⟨⟨sa, sc, F, h1, -⟩, -⟩ := h
  exact sfirst_t g p x sa sc w h1.s.bx
theorem LogX.epoch (h : LogX w g p x d n X) : Calls Tryd.prog 27 #[.pointer (some ⟨g, 0, none⟩)] w fun e w' => e = .returned (.int .u64 (x.h.e : Int)) ∧ w' = w := by
  obtain ⟨⟨sa, sc, F, h1, -⟩, -⟩ := h
  exact sepoch_t g p x sa sc w h1.s.bx
theorem LogX.free (h : LogX w g p x d n X) (hl : Liv d x T) (hn : x.nx < 281474976710656) : Calls Tryd.prog 12 #[.pointer (some ⟨g, 0, none⟩)] w fun e w' => e = .returned (.int .i64 (x.free : Int)) ∧ Below w.heap.size w w' := by
  obtain ⟨⟨sa, sc, F, h1, -⟩, -⟩ := h
  have := hl.Z; have := hl.AZ; have := hl.N; have := hl.ch.le.1
  exact sfree_t g p x sa sc w h1.s.bx (by omega) (by omega) (by omega) hl.fit
theorem Liv.slt (hl : Liv d x T) : ∀ s ∈ x.L, s.n < x.nx := fun s hs => by
  rw [hl.L] at hs
  obtain ⟨t, ht, rfl⟩ := List.mem_map.1 hs
  have h1 := hl.ch.le.2 t ht
  have h2 := (needS_pos (hl.ok t ht).1.len).1
  have h4 : t.need = needS t.b.length := rfl
  show t.n < x.nx
  omega
theorem LogX.append (h : LogX w g p x d n X) (hl : Liv d x T) (ra : Option Addr) (rc L : Nat) (rec : List UInt8) (hL : L = rec.length) (hle : L ≤ 8192) (hr : Rd w ra rec) (hc : L ≤ rc) (hnil : ra = none → rc = 0) (hrX : ∀ q, ra = some q → ¬ X q.block) (hn : n + 79 < 1099511627776) (hnx : x.nx + 79 < 281474976710656) (hF : needS L ≤ x.free) :
    Calls Tryd.prog 14 #[.pointer (some ⟨g, 0, none⟩), .slice ra L rc] w fun e w' => e = .returned (.tuple #[.int .u64 (x.nx : Int), .int .i64 0]) ∧ LogO w g p X (x.app rec) (runO d (recO x.A x.Z x.nx x.h.e rec (needS L))).1 (n + 79) w' := by
  obtain ⟨⟨sa, sc, F, h1, h2, h3, h4, h5⟩, h6⟩ := h
  have hZ := hl.Z; have hAZ := hl.AZ; have hN := hl.N; have hch := hl.ch.le.1; have hfit := hl.fit; have hsz := hl.size
  have hnp := needS_pos hle
  have hep := hl.ep
  have hlL := hl.lenL
  refine Calls.mono (sapp_go h1 ra rc L hle hl.fl hl.pw.on (by omega) rec hL (by omega) (by omega) hfit hF hr hc hnil (fun _ q e hq => hrX q e (h2 _ hq)) hn (by omega) (by rw [hL]; exact (hl.app (by omega) (by rw [← hL]; exact hF) (by omega)).1.ok) hl.slt (by omega)) ?_
  rintro e w' ⟨rfl, sa', sc', F', r1, r2, r3, r4⟩
  exact ⟨rfl, LogX.out h1 h2 h3 h4 h5 r1 r2 r3 r4 h6⟩
theorem LogX.full (h : LogX w g p x d n X) (hl : Liv d x T) (ra : Option Addr) (rc L : Nat) (hle : L ≤ 8192) (hnx : x.nx + 79 < 281474976710656) (hF : x.free < needS L) :
    Calls Tryd.prog 14 #[.pointer (some ⟨g, 0, none⟩), .slice ra L rc] w fun e w' => e = .returned (.tuple #[.int .u64 0, .int .i64 2]) ∧ Below w.heap.size w w' := by
  obtain ⟨⟨sa, sc, F, h1, h2, h3, h4, h5⟩, h6⟩ := h
  have hch := hl.ch.le.1
  have hnp := needS_pos hle
  exact sapp_full h1 ra rc L hle hl.fl hl.pw.on (by omega) (by omega) (by omega) hl.fit hF
end
/-- one more at the end, in order -/
theorem wp_appM1 {α : Type} {K : Kd α} {w : World} {ops : Array Oper} {rest : List Oper} {o : Oper} {a : Act} {Q : Exit → Act → World → Prop} (hgd : o.guard = none) (s x : Operand)
    (ho : o.op = .call { callee := .builtin .append, args := #[s, x], argTypes := #[K.ts, K.ts] }) (v : Value) (xs : List α) (y : α) (n : Nat) (hn : n = xs.length) (ad : Addr) (cap : Nat)
    (hs : a.eval s = v) (hmid : MidG K w v xs) (hx : a.eval x = .slice (some ad) 1 cap) (hr : RdG K w (some ad) [y])
    (hb : (n + 1) * K.by_ ≤ 140737488355328) (hm : n + 1 ≤ maxLen)
    (h : ∀ v' w', MidG K w' v' (xs ++ [y]) → w.grownBy w' v.ownBlock → (∀ b, v'.ownBlock = some b → v.ownBlock = some b ∨ w.heap.size ≤ b) → wpList Tryd.prog ops Q rest (a.put o.dst v') w') : wpList Tryd.prog ops Q (o :: rest) a w :=
  wpList_plain hgd fun _ hK => wpo_appM1 s x ho v xs y n hn ad cap hs hmid hx hr hb hm fun v' w' h2 h3 h4 => hK _ _ (h v' w' h2 h3 h4)
/-- a keeper with an item more -/
theorem KpA.push {w w7 : World} {kb g p n m n7 c7 ic B rl rc : Nat} {x : Lg} {d : Dst} {X Y : Nat → Prop} {T : List Itm} {k : Kp} {ia a7 ra : Option Addr} {N : List Nb} {o : Obj} {t : Itm} (hlog : LogX w g p x d n X) (hbx : w.heap[kb]? = some (.cells (k.c p g (.slice ia m ic)) tKp (0, 0))) (hmid : MidG KI w (.slice ia m ic) N) (hits : Its w N T) (hY1 : Y kb) (hY2 : ∀ a, ia = some a → Y a.block) (hY3 : ∀ (i : Nat) y b, N[i]? = some y → y.v.ownBlock = some b → Y b) (hy : ∀ b, Y b → b < w.heap.size ∧ ¬ X b)
    (ho : Own w B (.slice ra rl rc) t.b) (hrX : ∀ q, ra = some q → ¬ X q.block) (hg : (w.alloc o).grownBy w7 (Value.slice ia m ic).ownBlock) (hmid7 : MidG KI w7 (.slice a7 n7 c7) (N ++ [⟨t.n, ra, rl, rc⟩])) (hn7 : n7 = (N ++ [(⟨t.n, ra, rl, rc⟩ : Nb)]).length) (ht7 : ∀ b, (Value.slice a7 n7 c7).ownBlock = some b → (Value.slice ia m ic).ownBlock = some b ∨ (w.alloc o).heap.size ≤ b) :
    ∃ Y', KpA (w7.setCell ⟨kb, 3, none⟩ (.slice a7 n7 c7)) kb g p x d n X Y' (T ++ [t]) k ∧ ∀ b, Y' b → Y b ∨ w.heap.size ≤ b ∨ ∃ q, ra = some q ∧ b = q.block := by
  have hb5 : Below w.heap.size w (w.alloc o) := alS (Below.refl _ _) _
  have hkw := (Array.getElem?_eq_some_iff.1 hbx).1
  have hown : ∀ b, (Value.slice ia m ic).ownBlock = some b → b ≠ kb ∧ ∃ cur, w.heap[b]? = some (.cells cur KI.t (0, 0)) := fun b hb => by
    obtain ⟨cur, h9⟩ := hmid.blk b hb
    exact ⟨(fun e => by rw [e, hbx] at h9; cases h9), cur, h9⟩
  have h7 : w7.heap[kb]? = some (.cells (k.c p g (.slice ia m ic)) tKp (0, 0)) := (hg.block kb (Nat.lt_of_lt_of_le hkw hb5.size) (fun e => (hown _ e.symm).1 rfl)).trans (below_blk hb5 hbx)
  have hbx9 : (w7.setCell ⟨kb, 3, none⟩ (.slice a7 n7 c7)).heap[kb]? = some (.cells (k.c p g (.slice a7 n7 c7)) tKp (0, 0)) := heap_setCell_same w7 kb 3 _ _ _ h7
  have hg9 : w7.grownBy (w7.setCell ⟨kb, 3, none⟩ (.slice a7 n7 c7)) (some kb) := gset1 w7 kb 3 _
  generalize (w7.setCell ⟨kb, 3, none⟩ (.slice a7 n7 c7)) = w9 at *
  have hsz7 : w.heap.size ≤ w7.heap.size := Nat.le_trans hb5.size hg.size
  -- what is neither the keeper's box nor its row stays
  have keep : ∀ b, b < w.heap.size → b ≠ kb → (Value.slice ia m ic).ownBlock ≠ some b → w9.heap[b]? = w.heap[b]? := fun b h1 h2 h3 =>
    (hg9.block b (Nat.lt_of_lt_of_le h1 hsz7) (fun e => h2 (Option.some.inj e))).trans ((hg.block b (Nat.lt_of_lt_of_le h1 hb5.size) (fun e => h3 e.symm)).trans (hb5.block b h1))
  have hcw : Chg (fun b => b = kb ∨ (Value.slice ia m ic).ownBlock = some b) w w9 := by
    refine ((Chg.of_below hb5 : Chg (fun b => b = kb ∨ (Value.slice ia m ic).ownBlock = some b) _ _).trans (Chg.of_grown hg (F := fun b => (Value.slice ia m ic).ownBlock = some b) (fun b e => e)) (fun i h => .inl (.inr h))).trans (Chg.of_grown hg9 (F := fun b => b = kb) (fun b e => (Option.some.inj e).symm)) (fun i h => .inl (.inl h))
  have nX : ∀ b, X b → ¬ (b = kb ∨ (Value.slice ia m ic).ownBlock = some b) := by
    rintro b hb (rfl | h)
    · exact (hy _ hY1).2 hb
    · obtain ⟨a, e1, rfl⟩ := SA_blk h
      exact (hy _ (hY2 a e1)).2 hb
  have h5 : ∀ (b : Nat) (C : Array Value), w.heap[b]? = some (.cells C 5 (0, 0)) → w9.heap[b]? = w.heap[b]? := fun b C hC => keep b (Array.getElem?_eq_some_iff.1 hC).1 (fun e => by rw [e, hbx] at hC; cases hC) (fun e => by
    obtain ⟨cur, h9⟩ := (hown b e).2
    rw [hC] at h9; cases h9)
  have hrec : ∀ {B : Nat} {v : Value} {xs : List UInt8}, Own w B v xs → Own w9 B v xs := fun {B v xs} h => ownKept h (fun b hb => by
    rcases h.2 with ⟨e, -⟩ | ⟨g9, cap, cur, e, -, hg8, -⟩
    · rw [e] at hb; cases hb
    · rw [e] at hb; cases hb; exact h5 _ cur hg8)
  have hown7 : ∀ b, (Value.slice a7 n7 c7).ownBlock = some b → ((Value.slice ia m ic).ownBlock = some b ∨ w.heap.size ≤ b) ∧ b < w7.heap.size ∧ b ≠ kb := fun b hb => by
    have h8 := (ht7 b hb).imp id (fun h => Nat.le_trans hb5.size h)
    refine ⟨h8, hmid7.lt hb, ?_⟩
    rcases h8 with h9 | h9
    · exact (hown b h9).1
    · omega
  have hmid9 : MidG KI w9 (.slice a7 n7 c7) (N ++ [⟨t.n, ra, rl, rc⟩]) := hmid7.kept (fun b hb => hg9.block b (hown7 b hb).2.1 (fun e => (hown7 b hb).2.2 (Option.some.inj e)))
  have hNT := hits.len
  refine ⟨fun b => Y b ∨ (Value.slice a7 n7 c7).ownBlock = some b ∨ ∃ q, ra = some q ∧ b = q.block, ⟨hlog.kept hcw nX, ⟨a7, c7, N ++ [⟨t.n, ra, rl, rc⟩], ?_, ?_, ⟨by simp [hNT], ?_⟩, .inl hY1, fun a e => ?_, ?_⟩, ?_⟩, ?_⟩
  · rw [← hn7]; exact hbx9
  · rw [← hn7]; exact hmid9
  · intro i y u h1 h2
    by_cases hi : i < N.length
    · rw [List.getElem?_append_left hi] at h1
      rw [List.getElem?_append_left (by rw [← hNT]; exact hi)] at h2
      obtain ⟨e1, B', e2⟩ := hits.at_ i y u h1 h2
      exact ⟨e1, B', hrec e2⟩
    · have hi2 : i = N.length := by have := (List.getElem?_eq_some_iff.1 h1).1; simp at this; omega
      subst hi2
      rw [List.getElem?_append_right (Nat.le_refl _)] at h1
      rw [hNT, List.getElem?_append_right (Nat.le_refl _)] at h2
      simp at h1 h2
      subst h1; subst h2
      exact ⟨rfl, B, hrec ho⟩
  · right; left; rw [e]; cases a; rfl
  · intro i y b h1 hb
    by_cases hi : i < N.length
    · rw [List.getElem?_append_left hi] at h1
      exact .inl (hY3 i y b h1 hb)
    · have hi2 : i = N.length := by have := (List.getElem?_eq_some_iff.1 h1).1; simp at this; omega
      subst hi2
      rw [List.getElem?_append_right (Nat.le_refl _)] at h1
      simp at h1
      subst h1
      obtain ⟨q, e1, e2⟩ := SA_blk hb
      exact .inr (.inr ⟨q, e1, e2.symm⟩)
  · rintro b (hb | hb | ⟨q, e, rfl⟩)
    · exact ⟨Nat.lt_of_lt_of_le (hy b hb).1 hcw.size, (hy b hb).2⟩
    · refine ⟨Nat.lt_of_lt_of_le (hown7 b hb).2.1 hg9.size, fun hX => ?_⟩
      rcases (hown7 b hb).1 with h9 | h9
      · obtain ⟨a, e1, rfl⟩ := SA_blk h9
        exact (hy _ (hY2 a e1)).2 hX
      · have := hlog.lt b hX; omega
    · subst e
      exact ⟨Nat.lt_of_lt_of_le (World.ownsRow.lt ho q.block (by cases q; rfl)).2 hcw.size, hrX q rfl⟩
  · rintro b (hb | hb | hb)
    · exact .inl hb
    · rcases (hown7 b hb).1 with h9 | h9
      · obtain ⟨a, e1, rfl⟩ := SA_blk h9
        exact .inl (hY2 a e1)
      · exact .inr (.inl h9)
    · exact .inr (.inr hb)
end Go.Proofs.YtibepnilhmbpeaaDoor
namespace Go.Proofs.YtibepnilhmbpeaaDoor
set_option linter.unusedVariables false
set_option linter.unusedSimpArgs false
open Go.RowKit
theorem KpA.cl {w : World} {kb g p n : Nat} {x : Lg} {d : Dst} {X Y : Nat → Prop} {T : List Itm} {k : Kp} (h : KpA w kb g p x d n X Y T k) : w.cell? ⟨kb, 0, none⟩ = some (.pointer (some ⟨p, 0, none⟩)) ∧ w.cell? ⟨kb, 1, none⟩ = some (.pointer (some ⟨g, 0, none⟩)) ∧ w.cell? ⟨kb, 2, none⟩ = some (.int .i64 (k.size : Int)) ∧ w.cell? ⟨kb, 4, none⟩ = some (.int .i64 (k.last : Int)) ∧ w.cell? ⟨kb, 5, none⟩ = some (.int .u64 (k.fst : Int)) ∧ w.cell? ⟨kb, 7, none⟩ = some (.int .u64 (k.ep : Int)) ∧ w.cell? ⟨kb, 8, none⟩ = some (.bool k.dead) := by
  obtain ⟨-, ⟨ia, ic, N, hbx, -⟩, -⟩ := h
  obtain ⟨c0, c1, c2, c3, c4, c5, c6, c7, c8, c9⟩ := cells11 hbx
  exact ⟨c0, c1, c2, c4, c5, c7, c8⟩
/-- a keeper whose log lives -/
structure Kst (w : World) (kb g p : Nat) (x : Lg) (d : Dst) (n : Nat) (X Y : Nat → Prop) (T : List Itm) (k : Kp) : Prop where
  a : KpA w kb g p x d n X Y T k
  l : Liv d x T
  f : KpF k x
/-- blocks of bytes beside the log's are as they were -/
def ByK (X : Nat → Prop) (w w' : World) : Prop := ∀ (b : Nat) (C : Array Value) (fr : Nat × Nat), w.heap[b]? = some (.cells C 5 fr) → ¬ X b → w'.heap[b]? = w.heap[b]?
theorem ByK.trans {X : Nat → Prop} {u v w : World} (h : ByK X u v) (k : ByK X v w) : ByK X u w := fun b C fr hb hX => by
  have e := h b C fr hb hX
  exact (k b C fr (e.trans hb) hX).trans e
theorem ByK.chg {X G : Nat → Prop} {u v : World} (h : Chg G u v) (hG : ∀ (b : Nat) (C : Array Value) (fr : Nat × Nat), u.heap[b]? = some (.cells C 5 fr) → ¬ X b → ¬ G b) : ByK X u v := fun b C fr hb hX => h.block b (Array.getElem?_eq_some_iff.1 hb).1 (hG b C fr hb hX)
theorem ByK.below {X : Nat → Prop} {u v : World} (h : Below u.heap.size u v) : ByK X u v := fun b C fr hb _ => h.block b (Array.getElem?_eq_some_iff.1 hb).1
/-- what a call on a keeper leaves -/
structure KpO (w : World) (kb g p : Nat) (X Y : Nat → Prop) (x' : Lg) (d' : Dst) (n' : Nat) (T' : List Itm) (k' : Kp) (w' : World) : Prop where
  ex : ∃ X' Y', Kst w' kb g p x' d' n' X' Y' T' k' ∧ (∀ b, X' b → X b ∨ w.heap.size ≤ b) ∧ (∀ b, Y' b → Y b ∨ w.heap.size ≤ b)
  chg : Chg (fun b => X b ∨ Y b) w w'
  sm : w'.heap[0]? = w.heap[0]?
  bk : ByK X w w'
set_option maxRecDepth 20000 in
set_option maxHeartbeats 6400000 in
theorem kappends_ok {w : World} {kb g p n : Nat} {x : Lg} {d : Dst} {X Y : Nat → Prop} {T : List Itm} {k : Kp} (h : Kst w kb g p x d n X Y T k) (bs : Int) (hb1 : -9223372036854775808 ≤ bs) (hb2 : bs ≤ 9223372036854775807) (ht : k.told + 1 < 4611686018427387904) (hn : n + 79 < 1099511627776) (hnx : x.nx + 79 < 281474976710656) (hF : needS (spanK bs 0 8192) ≤ x.free) :
    Calls Tryd.prog 19 #[.pointer (some ⟨kb, 0, none⟩), .int .i64 bs] w fun e w' => e = .returned (.bool true) ∧ ∃ rec, rec.length = spanK bs 0 8192 ∧ KpO w kb g p X Y (x.app rec) (runO d (recO x.A x.Z x.nx x.h.e rec (needS rec.length))).1 (n + 79) (T ++ [⟨x.nx, x.h.e, rec⟩]) { k with told := k.told + 1 } w' := by
  obtain ⟨hA, hL, hKF⟩ := h
  have HA : Hid (KpA w kb g p x d n X Y T k) := hA
  have HLV : Hid (Liv d x T) := hL
  have HKF : Hid (KpF k x) := hKF
  have HTX : Hid (Calls _ _ _ w _) := text_t hA bs hb1 hb2 ht
  have hmi := spanK_in bs 0 8192 (by decide)
  obtain ⟨L, hLs⟩ : ∃ L, L = spanK bs 0 8192 := ⟨_, rfl⟩
  rw [← hLs] at HTX hF hmi ⊢
  have HLS : Hid (L = spanK bs 0 8192) := hLs
  obtain ⟨M, hM⟩ : ∃ M, M = needS L := ⟨_, rfl⟩
  have HM : Hid (M = needS L) := hM
  have hmp := needS_pos hmi.2
  rw [← hM] at hF hmp
  have HB : Hid (L ≤ 8192 ∧ 1 ≤ M ∧ M ≤ 79 ∧ n + 79 < 1099511627776 ∧ x.nx + 79 < 281474976710656 ∧ M ≤ x.free) := ⟨hmi.2, hmp.1, hmp.2.1, hn, hnx, hF⟩
  have HNE : Hid (∀ u, Calls Tryd.prog 11 #[.int .i64 (L : Int)] u fun er w' => er = .returned (.int .i64 (M : Int)) ∧ w' = u) := fun u => by rw [hM]; exact need_t L (by omega) u
  clear hA hL hKF hLs hM hmp hmi hn hnx hF ht
  go_enter Tryd.func19, Tryd.ntmps19
  go_upto_region 2 with (go_at_call 10; refine Calls.mono HTX.out ?_; rintro e w1 ⟨v, rec, rfl, hrl, hown, hA1, hc1⟩; obtain ⟨ra, rc, hv, hrc, -, hrn, hrd, hrb⟩ := Own.val hown; rw [hrl] at hv hrc; subst hv; have HO1 : Hid (Own w1 w.heap.size (.slice ra L rc) rec) := hown; have HRD : Hid (Rd w1 ra rec ∧ L ≤ rc ∧ (ra = none → rc = 0) ∧ (∀ a, ra = some a → w.heap.size ≤ a.block) ∧ rec.length = L) := ⟨hrd, hrc, hrn, fun a e => (hrb a e).1, hrl⟩; have HA1 : Hid (KpA w1 kb g p x d n X Y T { k with told := k.told + 1 }) := hA1; have HC1 : Hid (Chg (fun b => b = kb) w w1) := hc1; obtain ⟨b0, b1, b2, b4, b5, b7, b8⟩ := hA1.cl; clear hown hrd hA1 hc1 hrb hrn)
  have HNX : Hid (Calls _ _ _ w1 _) := HA1.out.log.next
  have HFR : Hid (Calls _ _ _ w1 _) := HA1.out.log.free HLV.out (by have := HB.out; omega)
  obtain ⟨fr, hfr⟩ : ∃ fr, fr = x.free := ⟨_, rfl⟩
  rw [← hfr] at HFR
  have HFE : Hid (fr = x.free) := hfr
  clear hfr
  go_upto_region 4 with first | (go_at_call 26; refine Calls.mono HNX.out ?_; rintro e w' ⟨rfl, hq⟩; have hq := hq.symm; subst hq) | (go_at_call 12; refine Calls.mono HFR.out ?_; rintro e u2 ⟨rfl, hu2⟩; have HU2 : Hid (Below w1.heap.size w1 u2) := hu2; clear hu2)
  obtain ⟨q0, q1, q2, q4, q5, q7, q8⟩ := (HA1.out.below HU2.out).cl
  have hnX : ∀ q, ra = some q → ¬ X q.block := fun q e hX => by have h9 := HA.out.log.lt _ hX; have := HRD.out.2.2.2.1 q e; omega
  have HNX2 : Hid (∀ q, ra = some q → ¬ X q.block) := hnX
  have hap := LogX.append (HA1.out.log.below HU2.out) HLV.out ra rc L rec HRD.out.2.2.2.2.symm HB.out.1 (HRD.out.1.below HU2.out) HRD.out.2.1 HRD.out.2.2.1 hnX HB.out.2.2.2.1 HB.out.2.2.2.2.1 (by rw [← HM.out]; exact HB.out.2.2.2.2.2)
  have HAP : Hid (Calls _ _ _ u2 _) := hap
  clear hap hnX b0 b1 b2 b4 b5 b7 b8
  go_upto_region 7 with (go_at_call 14; refine Calls.mono HAP.out ?_; rintro e w4 ⟨rfl, hlo⟩; have HLO : Hid (LogO u2 g p X (x.app rec) _ (n + 79) w4) := hlo; clear hlo)
  obtain ⟨X4, hA4, hX4⟩ := (HA1.out.below HU2.out).logged HLO.out
  have hO4 : Own w4 w.heap.size (.slice ra L rc) rec := ownKept (Own.below HO1.out HU2.out) (fun b hb => by
    obtain ⟨a, e1, rfl⟩ := SA_blk hb
    exact HLO.out.chg.block _ (World.ownsRow.lt (Own.below HO1.out HU2.out) _ hb).2 (HNX2.out a e1))
  have hrX4 : ∀ q, ra = some q → ¬ X4 q.block := fun q e hX => by
    rcases hX4 _ hX with h9 | h9
    · exact HNX2.out q e h9
    · have h8 := (World.ownsRow.lt (Own.below HO1.out HU2.out) q.block (by rw [e]; cases q; rfl)).2; omega
  have HA4 : Hid (KpA w4 kb g p (x.app rec) _ (n + 79) X4 Y T { k with told := k.told + 1 }) := hA4
  have HX4 : Hid (∀ b, X4 b → X b ∨ u2.heap.size ≤ b) := hX4
  obtain ⟨hlog4, ⟨ia, ic, N, hbx4, hmid4, hits4, hY1, hY2, hY3⟩, hy4⟩ := hA4
  obtain ⟨m, hm⟩ : ∃ m, m = N.length := ⟨_, rfl⟩
  rw [← hm] at hbx4 hmid4
  have HMN : Hid (m = N.length ∧ N.length = T.length) := ⟨hm, hits4.len⟩
  have HMS : Hid (m < 65536) := by unfold Hid; have := HLV.out.size; have := HLV.out.fit; have := HLV.out.N; have := HLV.out.AZ; have := hits4.len; omega
  have HK4 : Hid (LogX w4 g p (x.app rec) _ (n + 79) X4 ∧ w4.heap[kb]? = some (.cells (Kp.c { k with told := k.told + 1 } p g (.slice ia m ic)) tKp (0, 0)) ∧ MidG KI w4 (.slice ia m ic) N ∧ Its w4 N T ∧ Y kb ∧ (∀ a, ia = some a → Y a.block) ∧ (∀ (i : Nat) y b, N[i]? = some y → y.v.ownBlock = some b → Y b) ∧ (∀ b, Y b → b < w4.heap.size ∧ ¬ X4 b)) := ⟨hlog4, hbx4, hmid4, hits4, hY1, hY2, hY3, hy4⟩
  have HO4 : Hid _ := hO4
  have HRX4 : Hid _ := hrX4
  have hd3 := (cells11 hbx4).2.2.2.1
  have HBX5 : Hid (∀ u' v', (∀ b, v' = some b → b ≠ kb) → (∃ o, (w4.alloc o).grownBy u' v') → u'.heap[kb]? = some (.cells (Kp.c { k with told := k.told + 1 } p g (.slice ia m ic)) tKp (0, 0))) := fun u' v' hne ⟨o, hg⟩ => by
    have h1 := below_blk (alS (Below.refl w4.heap.size w4) o) hbx4
    exact (hg.block kb (Array.getElem?_eq_some_iff.1 h1).1 (fun e => hne kb e.symm rfl)).trans h1
  have HRN : Hid (∀ b, (Value.slice ia m ic).ownBlock = some b → b ≠ kb) := fun b hb e => by
    obtain ⟨cur, h9⟩ := hmid4.blk b hb
    rw [e, hbx4] at h9; cases h9
  clear q0 q1 q2 q4 q5 q7 q8 hlog4 hbx4 hmid4 hits4 hY1 hY2 hY3 hy4 hO4 hrX4 hX4 hm
  go_upto_region 8 with (at_builtin; refine wp_appM1 (K := KI) rfl _ _ rfl (.slice ia m ic) N ⟨x.nx, ra, L, rc⟩ m HMN.out.1 _ 1 rfl (HK4.out.2.2.1.below (alS (Below.refl _ _) _)) (by rfl) (rdG_lit (K := KI) (heap_alloc_new _ _) rfl) (by have := HMS.out; show (m + 1) * 32 ≤ _; omega) (by have := HMS.out; simp only [maxLen]; omega) ?_; intro v7 w7 hmid7 hg7 hat7; obtain ⟨a7, c7, hv7, -⟩ := hmid7.val; obtain ⟨n7, hn7⟩ : ∃ n7, n7 = (N ++ [(⟨x.nx, ra, L, rc⟩ : Nb)]).length := ⟨_, rfl⟩; rw [← hn7] at hv7; subst hv7; have h37 := HBX5.out w7 _ (fun b hb => HRN.out b hb) ⟨_, hg7⟩; have d37 := (cells11 h37).2.2.2.1; have f37 := frz h37 3; have HN7 : Hid _ := hn7; have HM7 : Hid _ := hmid7; have HG7 : Hid _ := hg7; have HT7 : Hid _ := hat7; clear hmid7 hg7 hat7 hn7 h37)
  obtain ⟨k1, k2, k3, k4, k5, k6, k7, k8⟩ := HK4.out
  obtain ⟨Y9, hA9, hY9⟩ := KpA.push (t := ⟨x.nx, x.h.e, rec⟩) k1 k2 k3 k4 k5 k6 k7 k8 HO4.out HRX4.out HG7.out HM7.out HN7.out HT7.out
  have hrlen := HRD.out.2.2.2.2
  have hlv := HLV.out.app (rec := rec) (by rw [hrlen]; exact HB.out.1) (by rw [hrlen, ← HM.out]; exact HB.out.2.2.2.2.2) HB.out.2.2.2.2.1
  have hd' : (runO d (recO x.A x.Z x.nx x.h.e rec (needS L))).1 = (runO d (recO x.A x.Z x.nx x.h.e rec (needS rec.length))).1 := by rw [hrlen]
  rw [hd'] at hA9
  have hbc : Chg (fun b => b = kb ∨ (Value.slice ia m ic).ownBlock = some b) w4 (w7.setCell ⟨kb, 3, none⟩ (.slice a7 n7 c7)) :=
    ((Chg.of_below (alS (Below.refl w4.heap.size w4) _) : Chg (fun b => b = kb ∨ (Value.slice ia m ic).ownBlock = some b) _ _).trans (Chg.of_grown HG7.out (F := fun b => (Value.slice ia m ic).ownBlock = some b) (fun b e => e)) (fun i h => .inl (.inr h))).trans (Chg.of_grown (gset1 w7 kb 3 _) (F := fun b => b = kb) (fun b e => (Option.some.inj e).symm)) (fun i h => .inl (.inl h))
  generalize (w7.setCell ⟨kb, 3, none⟩ (.slice a7 n7 c7)) = W9 at *
  have hc12 : Chg (fun b => X b ∨ Y b) w u2 := (HC1.out.mono (fun b e => by subst e; exact .inr k5)).trans (Chg.of_below HU2.out : Chg (fun b => X b ∨ Y b) _ _) (fun i h => .inl h)
  have hc14 : Chg (fun b => X b ∨ Y b) w w4 := hc12.trans (HLO.out.chg.mono (fun b h => (.inl h : X b ∨ Y b))) (fun i h => .inl h)
  have hc19 : Chg (fun b => X b ∨ Y b) w W9 := hc14.trans hbc (fun i h9 => by
    rcases h9 with rfl | h9
    · exact .inl (.inr k5)
    · obtain ⟨a, e1, rfl⟩ := SA_blk h9
      exact .inl (.inr (k6 a e1)))
  have hst : Kst W9 kb g p (x.app rec) (runO d (recO x.A x.Z x.nx x.h.e rec (needS rec.length))).1 (n + 79) X4 Y9 (T ++ [⟨x.nx, x.h.e, rec⟩]) { k with told := k.told + 1 } := ⟨hA9, hlv.2, HKF.out.size, HKF.out.fst, HKF.out.ep, HKF.out.dead⟩
  have HST : Hid _ := hst
  have HOUT : Hid ((∀ b, X4 b → X b ∨ w.heap.size ≤ b) ∧ (∀ b, Y9 b → Y b ∨ w.heap.size ≤ b) ∧ Chg (fun b => X b ∨ Y b) w W9 ∧ W9.heap[0]? = w.heap[0]? ∧ ByK X w W9) := by
    obtain ⟨-, ⟨_, _, _, hb00, -⟩, -⟩ := HA.out
    have hS := HA.out.sums
    have hs1 := HC1.out.block _ hS.1 (fun e => hS.2.1 (e ▸ k5))
    have hs2 := (HU2.out.block _ (Nat.lt_of_lt_of_le hS.1 HC1.out.size)).trans hs1
    have hs4 := HLO.out.sm.trans hs2
    have hs9 := (hbc.block _ (Nat.lt_of_lt_of_le hS.1 hc14.size) (fun h9 => by
      rcases h9 with h9 | h9
      · exact hS.2.1 (h9 ▸ k5)
      · obtain ⟨a, e1, e2⟩ := SA_blk h9
        exact hS.2.1 (e2 ▸ k6 a e1))).trans hs4
    refine ⟨fun b h9 => (HX4.out b h9).imp id (fun h => Nat.le_trans hc12.size h), fun b h9 => ?_, hc19, hs9, ((((ByK.chg HC1.out (fun b C fr h _ e => by rw [e, hb00] at h; cases h)).trans (ByK.below HU2.out)).trans (ByK.chg HLO.out.chg (fun b _ _ _ hX hG => hX hG))).trans (ByK.chg hbc (fun b C fr h _ hG => by
      rcases hG with e | hG
      · rw [e, k2] at h; cases h
      · obtain ⟨cur, h9⟩ := k3.blk b hG
        rw [h9] at h; cases h)))⟩
    rcases hY9 b h9 with h8 | h8 | ⟨q, e, rfl⟩
    · exact .inl h8
    · exact .inr (Nat.le_trans hc14.size h8)
    · exact .inr (HRD.out.2.2.2.1 q e)
  obtain ⟨b0, b1, b2, b4, b5, b7, bz8⟩ := hA9.cl
  have hdd : k.dead = false := HKF.out.dead
  have b8 : W9.cell? ⟨kb, 8, none⟩ = some (.bool false) := by rw [← hdd]; exact bz8
  clear bz8
  have HNX9 : Hid (Calls _ _ _ W9 _) := hA9.log.next
  have hfit9 := hlv.2.fit
  have hfr9 := hA9.log.free hlv.2 (by show x.nx + needS rec.length < _; have := HB.out; rw [hrlen, ← HM.out]; omega)
  obtain ⟨en, hen⟩ : ∃ en, en = (x.app rec).nx := ⟨_, rfl⟩
  obtain ⟨f9, hf9⟩ : ∃ f9, f9 = (x.app rec).free := ⟨_, rfl⟩
  rw [← hf9] at hfr9
  rw [← hen] at HNX9
  have HFR9 : Hid (Calls _ _ _ W9 _) := hfr9
  have hen2 : en = x.nx + M := by rw [hen, HM.out, ← hrlen]; rfl
  have hf92 : f9 = fr - M := by
    rw [hf9, HFE.out, HM.out, ← hrlen]
    show x.h.f + (x.Z - 2) - (x.nx + needS rec.length) = x.h.f + (x.Z - 2) - x.nx - needS rec.length
    omega
  have hmw : IntKind.u64.wrap (M : Int) = (M : Int) := by have := HB.out; rw [IntKind.wrap_u64]; omega
  have henw : IntKind.u64.wrap ((x.nx : Int) + (M : Int)) = (en : Int) := by have := HB.out; rw [IntKind.wrap_u64]; omega
  have hf9w : IntKind.i64.wrap ((fr : Int) - (M : Int)) = (f9 : Int) := by have h1 := HB.out; have h2 := HFE.out; have h3 := HLV.out.AZ; have h4 := HLV.out.N; have h5 : x.free = x.h.f + (x.Z - 2) - x.nx := rfl; have h6 := HLV.out.ch.le.1; rw [IntKind.wrap_i64]; omega
  clear k1 k2 k3 k4 k5 k6 k7 k8 hA9 hY9 hlv hd' hbc hc12 hc14 hc19 hst hdd hfit9 hfr9 hen hf9 hen2 hf92 d37 f37 hd3
  go_wp2_with first | (go_at_call 26; refine Calls.mono HNX9.out ?_; rintro e w' ⟨rfl, hq⟩; have hq := hq.symm; subst hq) | (go_at_call 12; refine Calls.mono HFR9.out ?_; rintro e u10 ⟨rfl, hu10⟩; have HU10 : Hid (Below W9.heap.size W9 u10) := hu10; clear hu10) | (go_at_call 11; refine Calls.mono (HNE.out _) ?_; rintro e w' ⟨rfl, hq⟩; have hq := hq.symm; subst hq)
  go_ret
  refine ⟨by first | rfl | simp, rec, hrl, ⟨X4, Y9, ⟨HST.out.a.below HU10.out, HST.out.l, HST.out.f⟩, HOUT.out.1, HOUT.out.2.1⟩, HOUT.out.2.2.1.trans (Chg.of_below HU10.out : Chg (fun b => X b ∨ Y b) _ _) (fun i h => .inl h), (HU10.out.block _ (Nat.lt_of_lt_of_le HA.out.sums.1 HOUT.out.2.2.1.size)).trans HOUT.out.2.2.2.1, HOUT.out.2.2.2.2.trans (ByK.below HU10.out)⟩
set_option maxRecDepth 20000 in
set_option maxHeartbeats 6400000 in
theorem kappends_full {w : World} {kb g p n : Nat} {x : Lg} {d : Dst} {X Y : Nat → Prop} {T : List Itm} {k : Kp} (h : Kst w kb g p x d n X Y T k) (bs : Int) (hb1 : -9223372036854775808 ≤ bs) (hb2 : bs ≤ 9223372036854775807) (ht : k.told + 1 < 4611686018427387904) (hn : n + 79 < 1099511627776) (hnx : x.nx + 79 < 281474976710656) (hF : x.free < needS (spanK bs 0 8192)) :
    Calls Tryd.prog 19 #[.pointer (some ⟨kb, 0, none⟩), .int .i64 bs] w fun e w' => e = .returned (.bool true) ∧ KpO w kb g p X Y x d n T { k with told := k.told + 1 } w' := by
  obtain ⟨hA, hL, hKF⟩ := h
  have HA : Hid (KpA w kb g p x d n X Y T k) := hA
  have HLV : Hid (Liv d x T) := hL
  have HKF : Hid (KpF k x) := hKF
  have HTX : Hid (Calls _ _ _ w _) := text_t hA bs hb1 hb2 ht
  have hmi := spanK_in bs 0 8192 (by decide)
  obtain ⟨L, hLs⟩ : ∃ L, L = spanK bs 0 8192 := ⟨_, rfl⟩
  rw [← hLs] at HTX hF hmi
  have HLS : Hid (L = spanK bs 0 8192) := hLs
  obtain ⟨M, hM⟩ : ∃ M, M = needS L := ⟨_, rfl⟩
  have HM : Hid (M = needS L) := hM
  have hmp := needS_pos hmi.2
  rw [← hM] at hF hmp
  have HB : Hid (L ≤ 8192 ∧ 1 ≤ M ∧ M ≤ 79 ∧ n + 79 < 1099511627776 ∧ x.nx + 79 < 281474976710656 ∧ x.free < M) := ⟨hmi.2, hmp.1, hmp.2.1, hn, hnx, hF⟩
  have HNE : Hid (∀ u, Calls Tryd.prog 11 #[.int .i64 (L : Int)] u fun er w' => er = .returned (.int .i64 (M : Int)) ∧ w' = u) := fun u => by rw [hM]; exact need_t L (by omega) u
  clear hA hL hKF hLs hM hmp hmi hn hnx hF ht
  go_enter Tryd.func19, Tryd.ntmps19
  go_upto_region 2 with (go_at_call 10; refine Calls.mono HTX.out ?_; rintro e w1 ⟨v, rec, rfl, hrl, hown, hA1, hc1⟩; obtain ⟨ra, rc, hv, hrc, -, hrn, hrd, hrb⟩ := Own.val hown; rw [hrl] at hv hrc; subst hv; have HO1 : Hid (Own w1 w.heap.size (.slice ra L rc) rec) := hown; have HRD : Hid (Rd w1 ra rec ∧ L ≤ rc ∧ (ra = none → rc = 0) ∧ (∀ a, ra = some a → w.heap.size ≤ a.block) ∧ rec.length = L) := ⟨hrd, hrc, hrn, fun a e => (hrb a e).1, hrl⟩; have HA1 : Hid (KpA w1 kb g p x d n X Y T { k with told := k.told + 1 }) := hA1; have HC1 : Hid (Chg (fun b => b = kb) w w1) := hc1; obtain ⟨b0, b1, b2, b4, b5, b7, b8⟩ := hA1.cl; clear hown hrd hA1 hc1 hrb hrn)
  have HNX : Hid (Calls _ _ _ w1 _) := HA1.out.log.next
  have HFR : Hid (Calls _ _ _ w1 _) := HA1.out.log.free HLV.out (by have := HB.out; omega)
  obtain ⟨fr, hfr⟩ : ∃ fr, fr = x.free := ⟨_, rfl⟩
  rw [← hfr] at HFR
  have HFE : Hid (fr = x.free) := hfr
  clear hfr
  go_upto_region 4 with first | (go_at_call 26; refine Calls.mono HNX.out ?_; rintro e w' ⟨rfl, hq⟩; have hq := hq.symm; subst hq) | (go_at_call 12; refine Calls.mono HFR.out ?_; rintro e u2 ⟨rfl, hu2⟩; have HU2 : Hid (Below w1.heap.size w1 u2) := hu2; clear hu2)
  obtain ⟨q0, q1, q2, q4, q5, q7, qz8⟩ := (HA1.out.below HU2.out).cl
  have hap := LogX.full (HA1.out.log.below HU2.out) HLV.out ra rc L HB.out.1 HB.out.2.2.2.2.1 (by rw [← HM.out]; exact HB.out.2.2.2.2.2)
  have HAP : Hid (Calls _ _ _ u2 _) := hap
  clear hap q0 q2 q4 q5 q7 qz8 b0 b1 b2 b4 b5 b7 b8
  go_upto_region 9 with (go_at_call 14; refine Calls.mono HAP.out ?_; rintro e w4 ⟨rfl, hlo⟩; have HLO : Hid (Below u2.heap.size u2 w4) := hlo; clear hlo)
  have hA4 := (HA1.out.below HU2.out).below HLO.out
  obtain ⟨b0, b1, b2, b4, b5, b7, bz8⟩ := hA4.cl
  have hdd : k.dead = false := HKF.out.dead
  have b8 : w4.cell? ⟨kb, 8, none⟩ = some (.bool false) := by rw [← hdd]; exact bz8
  have hlt : (fr : Int) < (M : Int) := by have h1 := HB.out; have h2 := HFE.out; omega
  have HKB : Hid (Y kb) := by
    obtain ⟨-, ⟨ia, ic, N, -, -, -, h4, -⟩, -⟩ := HA.out
    exact h4
  have HA4 : Hid _ := hA4
  clear bz8 hdd q1 hA4
  go_wp2_with (go_at_call 11; refine Calls.mono (HNE.out _) ?_; rintro e w' ⟨rfl, hq⟩; have hq := hq.symm; subst hq)
  go_ret
  exact ⟨by first | rfl | simp, ⟨X, Y, ⟨HA4.out, HLV.out, HKF.out.size, HKF.out.fst, HKF.out.ep, HKF.out.dead⟩, fun _ h => .inl h, fun _ h => .inl h⟩, (HC1.out.mono (fun b e => by subst e; exact .inr HKB.out)).trans (Chg.of_below (below_next HU2.out HLO.out) : Chg (fun b => X b ∨ Y b) _ _) (fun i h => .inl h), ((below_next HU2.out HLO.out).block _ (Nat.lt_of_lt_of_le HA.out.sums.1 HC1.out.size)).trans (HC1.out.block _ HA.out.sums.1 (fun e => HA.out.sums.2.1 (e ▸ HA.out.sums.2.2))), (ByK.chg HC1.out (fun b C fr h _ e => by
    obtain ⟨-, ⟨_, _, _, hb00, -⟩, -⟩ := HA.out
    rw [e, hb00] at h; cases h)).trans (ByK.below (below_next HU2.out HLO.out))⟩
end Go.Proofs.YtibepnilhmbpeaaDoor
