import Derived.Test.YtdkifaojpklmcaaDoorKPb
import Derived.Test.YtdkifaojpklmcaaDoorSNe
namespace Go.Proofs.YtdkifaojpklmcaaDoor
set_option linter.unusedVariables false
set_option linter.unusedSimpArgs false
open Go.RowKit
/-- the keeper's numbers are the log's -/
structure KpF (k : Kp) (x : Lg) : Prop where
  size : k.size = x.Z
  fst : k.fst = x.h.f
  ep : k.ep = x.h.e
  dead : k.dead = false
abbrev dz (N : Nat) : Dst := ⟨List.replicate N Sec.zero, fun _ => [], false, -1⟩
/-- what begin makes -/
structure BeOut (w : World) (N : Nat) (e : Ending) (w' : World) : Prop where
  ex : ∃ kb g p d X Y, e = .returned (.tuple #[.pointer (some ⟨kb, 0, none⟩), .bool true]) ∧ KpA w' kb g p ⟨2, N, opH0, 0, [], false⟩ d 65538 X Y [] ⟨N, 0, 0, 0, 1, false, 0⟩ ∧ Liv d ⟨2, N, opH0, 0, [], false⟩ [] ∧ (∀ b, X b → b = 0 ∨ w.heap.size ≤ b) ∧ (∀ b, Y b → w.heap.size ≤ b)
  bel : Below w.heap.size w w'
set_option maxRecDepth 20000 in
set_option maxHeartbeats 6400000 in
theorem kbegin_t {w : World} (bs : Int) (hb1 : -9223372036854775808 ≤ bs) (hb2 : bs ≤ 9223372036854775807) (ht : TabOk w) :
    Calls Tryd.prog 8 #[.int .i64 bs] w fun e w' => BeOut w (spanK bs 3 65531) e w' := by
  have HSP : Hid (∀ u, Calls _ _ _ u _) := fun u => spanK_t bs 3 65531 u hb1 hb2 (by decide) (by decide)
  obtain ⟨N, hN⟩ : ∃ N, N = spanK bs 3 65531 := ⟨_, rfl⟩
  have hmi := spanK_in bs 3 65531 (by decide)
  rw [← hN] at HSP hmi ⊢
  have hN5 : IntKind.i64.wrap ((N : Int) + 5) = ((N + 5 : Nat) : Int) := by rw [IntKind.wrap_i64]; omega
  have hp0 : Pow (dz (N + 5)) := ⟨rfl, rfl⟩
  obtain ⟨d1, d2, hbg⟩ := beg_ok (d := dz (N + 5)) hp0 (A := 2) (a := 2) (z := N) rfl hmi.1 (by rw [List.length_replicate]; omega) (by rw [List.length_replicate]; omega)
  have HBG : Hid (Beg (dz (N + 5)) 2 2 N d1 d2) := hbg
  have HNW : Hid (∀ u, Calls _ _ _ u _) := fun u => Dsk.new (N + 5) (by omega) (by omega) u
  have HT : Hid (TabOk w) := ht
  have HNI : Hid (3 ≤ N ∧ N ≤ 65531) := hmi
  clear hN hbg hp0 ht
  go_enter Tryd.func8, Tryd.ntmps8
  go_upto_region 3 with first | (go_at_call 9; refine Calls.mono (HSP.out _) ?_; rintro e w' ⟨rfl, hq⟩; have hq := hq.symm; subst hq) | (go_at_call 16; refine Calls.mono (HNW.out _) ?_; rintro e u1 ⟨p, F, rfl, hd, hF, hb⟩; have HD : Hid (Dsk u1 p (dz (N + 5)) 0 F) := hd; have HF : Hid (∀ b, F b → w.heap.size ≤ b) := hF; have HB1 : Hid (Below w.heap.size w u1) := hb; clear hd hF hb)
  have hfm := Format_t HD.out 2 (N : Int) (by decide) (by decide) (HT.out.below HB1.out) (fun h9 => by have := HF.out _ h9; have h8 := World.block_lt_of_cell? w _ (HT.out 0); have h8 : 0 < w.heap.size := h8; omega)
  rw [HBG.out.fe, HBG.out.fd] at hfm
  have HFM : Hid (Calls _ _ _ u1 _) := hfm
  clear hfm
  go_upto_region 5 with (go_at_call 17; refine Calls.mono HFM.out ?_; rintro e u2 ⟨rfl, hl⟩; have HL : Hid _ := hl; clear hl)
  obtain ⟨F2, hd2, hF2⟩ := HL.out.ex
  have hb2 : Below w.heap.size w u2 := HB1.out.trans (HL.out.chg.below (fun i hi => HF.out i hi) HB1.out.size)
  have hF2' : ∀ b, F2 b → w.heap.size ≤ b := fun b hb => (hF2 b hb).elim (HF.out b) (fun h => Nat.le_trans HB1.out.size h)
  have hS2 : ¬ F2 0 := fun h9 => by have := hF2' _ h9; have h8 := World.block_lt_of_cell? w _ (HT.out 0); have h8 : 0 < w.heap.size := h8; omega
  have HOP : Hid (Calls _ _ _ u2 _) := Open_t hd2 2 (N : Int) (by decide) (by decide) (HT.out.below hb2) hS2
  have HB2 : Hid (Below w.heap.size w u2) := hb2
  have HF2 : Hid (∀ b, F2 b → w.heap.size ≤ b) := hF2'
  clear hd2 hF2 hb2 hF2' hS2
  go_upto_region 6 with (go_at_call 18; refine Calls.mono HOP.out ?_; rintro e u3 hq; obtain ⟨g, sa, sc, F3, he3, hm3, r2, r3, r4, r5⟩ := hq.ok HBG.out.oe; subst he3; rw [HBG.out.oy, HBG.out.od] at hm3; have HM3 : Hid (LogM u3 g p ⟨2, N, opH0, 0, [], false⟩ sa sc d2 65538 F3) := hm3; have HR3 : Hid ((∀ b, F3 b → F2 b ∨ u2.heap.size ≤ b) ∧ u2.heap.size ≤ g ∧ (∀ a, sa = some a → u2.heap.size ≤ a.block) ∧ Chg F2 u2 u3) := ⟨r2, r3, r4, r5⟩; clear hq hm3 r2 r3 r4 r5)
  have HC1 : Hid (∀ u, Below u3.heap.size u3 u → Calls _ _ _ u _) := fun u hu => sfirst_t g p _ sa sc u (HM3.out.below hu).s.bx
  have HC2 : Hid (∀ u, Below u3.heap.size u3 u → Calls _ _ _ u _) := fun u hu => snext_t g p _ sa sc u (HM3.out.below hu).s.bx
  have HC3 : Hid (∀ u, Below u3.heap.size u3 u → Calls _ _ _ u _) := fun u hu => sepoch_t g p _ sa sc u (HM3.out.below hu).s.bx
  have hfr := sfree_t g p _ sa sc u3 HM3.out.s.bx (by have := HNI.out; show 2 ≤ N; omega) (by have := HNI.out; show N ≤ 65536; omega) (by show 0 ≤ _; omega) (by show 0 ≤ _; omega)
  obtain ⟨fr, hfe⟩ : ∃ fr, fr = (⟨2, N, opH0, 0, [], false⟩ : Lg).free := ⟨_, rfl⟩
  rw [← hfe] at hfr
  have HC4 : Hid (Calls _ _ _ u3 _) := hfr
  have hfe2 : fr = N - 2 := by rw [hfe]; show 0 + (N - 2) - 0 = N - 2; omega
  have hfw : IntKind.i64.wrap ((N : Int) - 2) = (fr : Int) := by have := HNI.out; rw [IntKind.wrap_i64]; omega
  clear hfr hfe hfe2
  go_wp2_with first | (go_at_call 25; refine Calls.mono (HC1.out _ (Below.refl _ _)) ?_; rintro e w' ⟨rfl, hq⟩; have hq := hq.symm; subst hq) | (go_at_call 26; refine Calls.mono (HC2.out _ (Below.refl _ _)) ?_; rintro e w' ⟨rfl, hq⟩; have hq := hq.symm; subst hq) | (go_at_call 27; refine Calls.mono (HC3.out _ (Below.refl _ _)) ?_; rintro e w' ⟨rfl, hq⟩; have hq := hq.symm; subst hq) | (go_at_call 12; refine Calls.mono HC4.out ?_; rintro e u4 ⟨rfl, hu4⟩; have HU4 : Hid (Below u3.heap.size u3 u4) := hu4; clear hu4)
  go_ret2
  have hbx : (u4.alloc (.cells #[.pointer (some ⟨p, 0, none⟩), .pointer (some ⟨g, 0, none⟩), .int .i64 (N : Int), .slice none 0 0, .int .i64 0, .int .u64 0, .int .u64 0, .int .u64 1, .bool false, .int .i64 0, .int .i64 0] tKp)).heap[u4.heap.size]? = some (.cells (Kp.c ⟨N, 0, 0, 0, 1, false, 0⟩ p g (.slice none 0 0)) tKp (0, 0)) := heap_alloc_new _ _
  have hb5 : Below u4.heap.size u4 (u4.alloc (.cells #[.pointer (some ⟨p, 0, none⟩), .pointer (some ⟨g, 0, none⟩), .int .i64 (N : Int), .slice none 0 0, .int .i64 0, .int .u64 0, .int .u64 0, .int .u64 1, .bool false, .int .i64 0, .int .i64 0] tKp)) := alS (Below.refl _ _) _
  change BeOut w N _ (u4.alloc (.cells #[.pointer (some ⟨p, 0, none⟩), .pointer (some ⟨g, 0, none⟩), .int .i64 (N : Int), .slice none 0 0, .int .i64 0, .int .u64 0, .int .u64 0, .int .u64 1, .bool false, .int .i64 0, .int .i64 0] tKp))
  generalize (u4.alloc (.cells #[.pointer (some ⟨p, 0, none⟩), .pointer (some ⟨g, 0, none⟩), .int .i64 (N : Int), .slice none 0 0, .int .i64 0, .int .u64 0, .int .u64 0, .int .u64 1, .bool false, .int .i64 0, .int .i64 0] tKp)) = W5 at *
  have hb35 : Below u3.heap.size u3 W5 := below_next HU4.out hb5
  have hm := HM3.out.below hb35
  have hsz := HB2.out.size
  have hu34 := HU4.out.size
  have hg3 := (Array.getElem?_eq_some_iff.1 HM3.out.s.bx).1
  have hk5 := (Array.getElem?_eq_some_iff.1 hbx).1
  have hX : ∀ b, (F3 b ∨ b = g ∨ (∃ a, sa = some a ∧ b = a.block) ∨ b = 0) → b < u3.heap.size := by
    rintro b (h9 | rfl | ⟨a, e, rfl⟩ | rfl)
    · exact HM3.out.s.dk.lt b h9
    · exact hg3
    · exact HM3.out.slt a e
    · exact HM3.out.sz
  refine ⟨⟨u4.heap.size, g, p, d2, fun b => F3 b ∨ b = g ∨ (∃ a, sa = some a ∧ b = a.block) ∨ b = 0, fun b => b = u4.heap.size, rfl, ⟨⟨⟨sa, sc, F3, hm, fun b h => .inl h, .inr (.inl rfl), fun a e => .inr (.inr (.inl ⟨a, e, rfl⟩)), .inr (.inr (.inr rfl))⟩, fun b hb => Nat.lt_of_lt_of_le (hX b hb) hb35.size⟩, ⟨none, 0, [], hbx, ⟨(fun b hb => by cases hb), .inl ⟨none, rfl, rfl⟩⟩, ⟨rfl, fun i y t h => by simp at h⟩, rfl, (fun a e => by cases e), (fun i y b h => by simp at h)⟩, ?_⟩, HBG.out.lv, ?_, ?_⟩, ?_⟩
  · rintro b rfl
    exact ⟨hk5, fun h9 => by have := hX _ h9; omega⟩
  · rintro b (h9 | rfl | ⟨a, e, rfl⟩ | rfl)
    · rcases HR3.out.1 b h9 with h8 | h8
      · exact .inr (HF2.out b h8)
      · exact .inr (by omega)
    · exact .inr (by have := HR3.out.2.1; omega)
    · exact .inr (by have := HR3.out.2.2.1 a e; omega)
    · exact .inl rfl
  · rintro b rfl
    have := HR3.out.2.2.2.size
    omega
  · exact (HB2.out.trans (HR3.out.2.2.2.below (fun i hi => HF2.out i hi) HB2.out.size)).trans (hb35.mono (by have := HR3.out.2.2.2.size; omega))
end Go.Proofs.YtdkifaojpklmcaaDoor
namespace Go.Proofs.YtdkifaojpklmcaaDoor
set_option linter.unusedVariables false
set_option linter.unusedSimpArgs false
open Go.RowKit
section
variable {w w' : World} {kb g p n : Nat} {x : Lg} {d : Dst} {X Y : Nat → Prop} {T : List Itm} {k : Kp}
theorem LogX.next (h : LogX w g p x d n X) : Calls Tryd.prog 26 #[.pointer (some ⟨g, 0, none⟩)] w fun e w' => e = .returned (.int .u64 (x.nx : Int)) ∧ w' = w := by
  obtain ⟨⟨sa, sc, F, h1, -⟩, -⟩ := h
  exact snext_t g p x sa sc w h1.s.bx
theorem LogX.first (h : LogX w g p x d n X) : Calls Tryd.prog 25 #[.pointer (some ⟨g, 0, none⟩)] w fun e w' => e = .returned (.int .u64 (x.h.f : Int)) ∧ w' = w := by
  obtain ⟨⟨sa, sc, F, h1, -⟩, -⟩ := h
  exact sfirst_t g p x sa sc w h1.s.bx
theorem LogX.epoch (h : LogX w g p x d n X) : Calls Tryd.prog 27 #[.pointer (some ⟨g, 0, none⟩)] w fun e w' => e = .returned (.int .u64 (x.h.e : Int)) ∧ w' = w := by
  obtain ⟨⟨sa, sc, F, h1, -⟩, -⟩ := h
  exact sepoch_t g p x sa sc w h1.s.bx
theorem LogX.free (h : LogX w g p x d n X) (hl : Liv d x T) (hn : x.nx < 281474976710656) : Calls Tryd.prog 12 #[.pointer (some ⟨g, 0, none⟩)] w fun e w' => e = .returned (.int .i64 (x.free : Int)) ∧ Below w.heap.size w w' := by
  obtain ⟨⟨sa, sc, F, h1, -⟩, -⟩ := h
  have := hl.Z; have := hl.AZ; have := hl.N; have := hl.ch.le.1
  exact sfree_t g p x sa sc w h1.s.bx (by omega) (by omega) (by omega) hl.fit
theorem Liv.slt (hl : Liv d x T) : ∀ s ∈ x.L, s.n < x.nx := fun s hs => by
  rw [hl.L] at hs
  obtain ⟨t, ht, rfl⟩ := List.mem_map.1 hs
  have h1 := hl.ch.le.2 t ht
  have h2 := (needS_pos (hl.ok t ht).1.len).1
  have h4 : t.need = needS t.b.length := rfl
  show t.n < x.nx
  omega
theorem LogX.append (h : LogX w g p x d n X) (hl : Liv d x T) (ra : Option Addr) (rc L : Nat) (rec : List UInt8) (hL : L = rec.length) (hle : L ≤ 8192) (hr : Rd w ra rec) (hc : L ≤ rc) (hnil : ra = none → rc = 0) (hrX : ∀ q, ra = some q → ¬ X q.block) (hn : n + 79 < 1099511627776) (hnx : x.nx + 79 < 281474976710656) (hF : needS L ≤ x.free) :
    Calls Tryd.prog 14 #[.pointer (some ⟨g, 0, none⟩), .slice ra L rc] w fun e w' => e = .returned (.tuple #[.int .u64 (x.nx : Int), .int .i64 0]) ∧ LogO w g p X (x.app rec) (runO d (recO x.A x.Z x.nx x.h.e rec (needS L))).1 (n + 79) w' := by
  obtain ⟨⟨sa, sc, F, h1, h2, h3, h4, h5⟩, h6⟩ := h
  have hZ := hl.Z; have hAZ := hl.AZ; have hN := hl.N; have hch := hl.ch.le.1; have hfit := hl.fit; have hsz := hl.size
  have hnp := needS_pos hle
  have hep := hl.ep
  have hlL := hl.lenL
  refine Calls.mono (sapp_go h1 ra rc L hle hl.fl hl.pw.on (by omega) rec hL (by omega) (by omega) hfit hF hr hc hnil (fun _ q e hq => hrX q e (h2 _ hq)) hn (by omega) (by rw [hL]; exact (hl.app (by omega) (by rw [← hL]; exact hF) (by omega)).1.ok) hl.slt (by omega)) ?_
  rintro e w' ⟨rfl, sa', sc', F', r1, r2, r3, r4⟩
  exact ⟨rfl, LogX.out h1 h2 h3 h4 h5 r1 r2 r3 r4 h6⟩
theorem LogX.full (h : LogX w g p x d n X) (hl : Liv d x T) (ra : Option Addr) (rc L : Nat) (hle : L ≤ 8192) (hnx : x.nx + 79 < 281474976710656) (hF : x.free < needS L) :
    Calls Tryd.prog 14 #[.pointer (some ⟨g, 0, none⟩), .slice ra L rc] w fun e w' => e = .returned (.tuple #[.int .u64 0, .int .i64 2]) ∧ Below w.heap.size w w' := by
  obtain ⟨⟨sa, sc, F, h1, h2, h3, h4, h5⟩, h6⟩ := h
  have hch := hl.ch.le.1
  have hnp := needS_pos hle
  exact sapp_full h1 ra rc L hle hl.fl hl.pw.on (by omega) (by omega) (by omega) hl.fit hF
end
/-- one more at the end, in order -/
theorem wp_appM1 {α : Type} {K : Kd α} {w : World} {ops : Array Oper} {rest : List Oper} {o : Oper} {a : Act} {Q : Exit → Act → World → Prop} (hgd : o.guard = none) (s x : Operand)
    (ho : o.op = .call { callee := .builtin .append, args := #[s, x], argTypes := #[K.ts, K.ts] }) (v : Value) (xs : List α) (y : α) (n : Nat) (hn : n = xs.length) (ad : Addr) (cap : Nat)
    (hs : a.eval s = v) (hmid : MidG K w v xs) (hx : a.eval x = .slice (some ad) 1 cap) (hr : RdG K w (some ad) [y])
    (hb : (n + 1) * K.by_ ≤ 140737488355328) (hm : n + 1 ≤ maxLen)
    (h : ∀ v' w', MidG K w' v' (xs ++ [y]) → w.grownBy w' v.ownBlock → (∀ b, v'.ownBlock = some b → v.ownBlock = some b ∨ w.heap.size ≤ b) → wpList Tryd.prog ops Q rest (a.put o.dst v') w') : wpList Tryd.prog ops Q (o :: rest) a w :=
  wpList_plain hgd fun _ hK => wpo_appM1 s x ho v xs y n hn ad cap hs hmid hx hr hb hm fun v' w' h2 h3 h4 => hK _ _ (h v' w' h2 h3 h4)
/-- a keeper with an item more -/
theorem KpA.push {w w7 : World} {kb g p n m n7 c7 ic B rl rc : Nat} {x : Lg} {d : Dst} {X Y : Nat → Prop} {T : List Itm} {k : Kp} {ia a7 ra : Option Addr} {N : List Nb} {o : Obj} {t : Itm} (hlog : LogX w g p x d n X) (hbx : w.heap[kb]? = some (.cells (k.c p g (.slice ia m ic)) tKp (0, 0))) (hmid : MidG KI w (.slice ia m ic) N) (hits : Its w N T) (hY1 : Y kb) (hY2 : ∀ a, ia = some a → Y a.block) (hY3 : ∀ (i : Nat) y b, N[i]? = some y → y.v.ownBlock = some b → Y b) (hy : ∀ b, Y b → b < w.heap.size ∧ ¬ X b)
    (ho : Own w B (.slice ra rl rc) t.b) (hrX : ∀ q, ra = some q → ¬ X q.block) (hg : (w.alloc o).grownBy w7 (Value.slice ia m ic).ownBlock) (hmid7 : MidG KI w7 (.slice a7 n7 c7) (N ++ [⟨t.n, ra, rl, rc⟩])) (hn7 : n7 = (N ++ [(⟨t.n, ra, rl, rc⟩ : Nb)]).length) (ht7 : ∀ b, (Value.slice a7 n7 c7).ownBlock = some b → (Value.slice ia m ic).ownBlock = some b ∨ (w.alloc o).heap.size ≤ b) :
    ∃ Y', KpA (w7.setCell ⟨kb, 3, none⟩ (.slice a7 n7 c7)) kb g p x d n X Y' (T ++ [t]) k ∧ ∀ b, Y' b → Y b ∨ w.heap.size ≤ b ∨ ∃ q, ra = some q ∧ b = q.block := by
  have hb5 : Below w.heap.size w (w.alloc o) := alS (Below.refl _ _) _
  have hkw := (Array.getElem?_eq_some_iff.1 hbx).1
  have hown : ∀ b, (Value.slice ia m ic).ownBlock = some b → b ≠ kb ∧ ∃ cur, w.heap[b]? = some (.cells cur KI.t (0, 0)) := fun b hb => by
    obtain ⟨cur, h9⟩ := hmid.blk b hb
    exact ⟨(fun e => by rw [e, hbx] at h9; cases h9), cur, h9⟩
  have h7 : w7.heap[kb]? = some (.cells (k.c p g (.slice ia m ic)) tKp (0, 0)) := (hg.block kb (Nat.lt_of_lt_of_le hkw hb5.size) (fun e => (hown _ e.symm).1 rfl)).trans (below_blk hb5 hbx)
  have hbx9 : (w7.setCell ⟨kb, 3, none⟩ (.slice a7 n7 c7)).heap[kb]? = some (.cells (k.c p g (.slice a7 n7 c7)) tKp (0, 0)) := heap_setCell_same w7 kb 3 _ _ _ h7
  have hg9 : w7.grownBy (w7.setCell ⟨kb, 3, none⟩ (.slice a7 n7 c7)) (some kb) := gset1 w7 kb 3 _
  generalize (w7.setCell ⟨kb, 3, none⟩ (.slice a7 n7 c7)) = w9 at *
  have hsz7 : w.heap.size ≤ w7.heap.size := Nat.le_trans hb5.size hg.size
  -- what is neither the keeper's box nor its row stays
  have keep : ∀ b, b < w.heap.size → b ≠ kb → (Value.slice ia m ic).ownBlock ≠ some b → w9.heap[b]? = w.heap[b]? := fun b h1 h2 h3 =>
    (hg9.block b (Nat.lt_of_lt_of_le h1 hsz7) (fun e => h2 (Option.some.inj e))).trans ((hg.block b (Nat.lt_of_lt_of_le h1 hb5.size) (fun e => h3 e.symm)).trans (hb5.block b h1))
  have hcw : Chg (fun b => b = kb ∨ (Value.slice ia m ic).ownBlock = some b) w w9 := by
    refine ((Chg.of_below hb5 : Chg (fun b => b = kb ∨ (Value.slice ia m ic).ownBlock = some b) _ _).trans (Chg.of_grown hg (F := fun b => (Value.slice ia m ic).ownBlock = some b) (fun b e => e)) (fun i h => .inl (.inr h))).trans (Chg.of_grown hg9 (F := fun b => b = kb) (fun b e => (Option.some.inj e).symm)) (fun i h => .inl (.inl h))
  have nX : ∀ b, X b → ¬ (b = kb ∨ (Value.slice ia m ic).ownBlock = some b) := by
    rintro b hb (rfl | h)
    · exact (hy _ hY1).2 hb
    · obtain ⟨a, e1, rfl⟩ := SA_blk h
      exact (hy _ (hY2 a e1)).2 hb
  have h5 : ∀ (b : Nat) (C : Array Value), w.heap[b]? = some (.cells C 5 (0, 0)) → w9.heap[b]? = w.heap[b]? := fun b C hC => keep b (Array.getElem?_eq_some_iff.1 hC).1 (fun e => by rw [e, hbx] at hC; cases hC) (fun e => by
    obtain ⟨cur, h9⟩ := (hown b e).2
    rw [hC] at h9; cases h9)
  have hrec : ∀ {B : Nat} {v : Value} {xs : List UInt8}, Own w B v xs → Own w9 B v xs := fun {B v xs} h => ownKept h (fun b hb => by
    rcases h.2 with ⟨e, -⟩ | ⟨g9, cap, cur, e, -, hg8, -⟩
    · rw [e] at hb; cases hb
    · rw [e] at hb; cases hb; exact h5 _ cur hg8)
  have hown7 : ∀ b, (Value.slice a7 n7 c7).ownBlock = some b → ((Value.slice ia m ic).ownBlock = some b ∨ w.heap.size ≤ b) ∧ b < w7.heap.size ∧ b ≠ kb := fun b hb => by
    have h8 := (ht7 b hb).imp id (fun h => Nat.le_trans hb5.size h)
    refine ⟨h8, hmid7.lt hb, ?_⟩
    rcases h8 with h9 | h9
    · exact (hown b h9).1
    · omega
  have hmid9 : MidG KI w9 (.slice a7 n7 c7) (N ++ [⟨t.n, ra, rl, rc⟩]) := hmid7.kept (fun b hb => hg9.block b (hown7 b hb).2.1 (fun e => (hown7 b hb).2.2 (Option.some.inj e)))
  have hNT := hits.len
  refine ⟨fun b => Y b ∨ (Value.slice a7 n7 c7).ownBlock = some b ∨ ∃ q, ra = some q ∧ b = q.block, ⟨hlog.kept hcw nX, ⟨a7, c7, N ++ [⟨t.n, ra, rl, rc⟩], ?_, ?_, ⟨by simp [hNT], ?_⟩, .inl hY1, fun a e => ?_, ?_⟩, ?_⟩, ?_⟩
  · rw [← hn7]; exact hbx9
  · rw [← hn7]; exact hmid9
  · intro i y u h1 h2
    by_cases hi : i < N.length
    · rw [List.getElem?_append_left hi] at h1
      rw [List.getElem?_append_left (by rw [← hNT]; exact hi)] at h2
      obtain ⟨e1, B', e2⟩ := hits.at_ i y u h1 h2
      exact ⟨e1, B', hrec e2⟩
    · have hi2 : i = N.length := by have := (List.getElem?_eq_some_iff.1 h1).1; simp at this; omega
      subst hi2
      rw [List.getElem?_append_right (Nat.le_refl _)] at h1
      rw [hNT, List.getElem?_append_right (Nat.le_refl _)] at h2
      simp at h1 h2
      subst h1; subst h2
      exact ⟨rfl, B, hrec ho⟩
  · right; left; rw [e]; cases a; rfl
  · intro i y b h1 hb
    by_cases hi : i < N.length
    · rw [List.getElem?_append_left hi] at h1
      exact .inl (hY3 i y b h1 hb)
    · have hi2 : i = N.length := by have := (List.getElem?_eq_some_iff.1 h1).1; simp at this; omega
      subst hi2
      rw [List.getElem?_append_right (Nat.le_refl _)] at h1
      simp at h1
      subst h1
      obtain ⟨q, e1, e2⟩ := SA_blk hb
      exact .inr (.inr ⟨q, e1, e2.symm⟩)
  · rintro b (hb | hb | ⟨q, e, rfl⟩)
    · exact ⟨Nat.lt_of_lt_of_le (hy b hb).1 hcw.size, (hy b hb).2⟩
    · refine ⟨Nat.lt_of_lt_of_le (hown7 b hb).2.1 hg9.size, fun hX => ?_⟩
      rcases (hown7 b hb).1 with h9 | h9
      · obtain ⟨a, e1, rfl⟩ := SA_blk h9
        exact (hy _ (hY2 a e1)).2 hX
      · have := hlog.lt b hX; omega
    · subst e
      exact ⟨Nat.lt_of_lt_of_le (World.ownsRow.lt ho q.block (by cases q; rfl)).2 hcw.size, hrX q rfl⟩
  · rintro b (hb | hb | hb)
    · exact .inl hb
    · rcases (hown7 b hb).1 with h9 | h9
      · obtain ⟨a, e1, rfl⟩ := SA_blk h9
        exact .inl (hY2 a e1)
      · exact .inr (.inl h9)
    · exact .inr (.inr hb)
end Go.Proofs.YtdkifaojpklmcaaDoor
namespace Go.Proofs.YtdkifaojpklmcaaDoor
set_option linter.unusedVariables false
set_option linter.unusedSimpArgs false
open Go.RowKit
theorem KpA.cl {w : World} {kb g p n : Nat} {x : Lg} {d : Dst} {X Y : Nat → Prop} {T : List Itm} {k : Kp} (h : KpA w kb g p x d n X Y T k) : w.cell? ⟨kb, 0, none⟩ = some (.pointer (some ⟨p, 0, none⟩)) ∧ w.cell? ⟨kb, 1, none⟩ = some (.pointer (some ⟨g, 0, none⟩)) ∧ w.cell? ⟨kb, 2, none⟩ = some (.int .i64 (k.size : Int)) ∧ w.cell? ⟨kb, 4, none⟩ = some (.int .i64 (k.last : Int)) ∧ w.cell? ⟨kb, 5, none⟩ = some (.int .u64 (k.fst : Int)) ∧ w.cell? ⟨kb, 7, none⟩ = some (.int .u64 (k.ep : Int)) ∧ w.cell? ⟨kb, 8, none⟩ = some (.bool k.dead) := by
  obtain ⟨-, ⟨ia, ic, N, hbx, -⟩, -⟩ := h
  obtain ⟨c0, c1, c2, c3, c4, c5, c6, c7, c8, c9⟩ := cells11 hbx
  exact ⟨c0, c1, c2, c4, c5, c7, c8⟩
/-- a keeper whose log lives -/
structure Kst (w : World) (kb g p : Nat) (x : Lg) (d : Dst) (n : Nat) (X Y : Nat → Prop) (T : List Itm) (k : Kp) : Prop where
  a : KpA w kb g p x d n X Y T k
  l : Liv d x T
  f : KpF k x
/-- what a call on a keeper leaves -/
structure KpO (w : World) (kb g p : Nat) (X Y : Nat → Prop) (x' : Lg) (d' : Dst) (n' : Nat) (T' : List Itm) (k' : Kp) (w' : World) : Prop where
  ex : ∃ X' Y', Kst w' kb g p x' d' n' X' Y' T' k' ∧ (∀ b, X' b → X b ∨ w.heap.size ≤ b) ∧ (∀ b, Y' b → Y b ∨ w.heap.size ≤ b)
  chg : Chg (fun b => X b ∨ Y b) w w'
  sm : w'.heap[0]? = w.heap[0]?
end Go.Proofs.YtdkifaojpklmcaaDoor
