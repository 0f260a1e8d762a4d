import Derived.Test.YtgdkiejlggiakacOWr
import Derived.Test.YtgdkiejlggiakacOCr
import Derived.Test.YtgdkiejlggiakacOAsk
namespace Go.Proofs.Ytgdkiejlggiakac
set_option linter.unusedVariables false
set_option linter.unusedSimpArgs false
open Go.RowKit Go.Maps
theorem Rd.lt {w : World} {ao : Option Addr} {xs : List UInt8} (h : Rd w ao xs) (h0 : 0 < xs.length) : ∀ a, ao = some a → a.block < w.heap.size := by
  intro a ha
  obtain ⟨b, o, rfl, hc⟩ := h h0
  cases ha
  exact World.block_lt_of_cell? w _ (hc 0 h0)
/-- an operation in memory -/
structure OpAt (W : World) (o : Dop) (ra : Option Addr) (rc : Nat) (ca : Option Addr) (cc : Nat) : Prop where
  raw : Rd W ra o.raw
  rnil : ra = none → rc = 0
  rmost : o.raw.length ≤ 1099511627776
  cs : Ints W ca o.cs
  cnil : ca = none → cc = 0
  cmost : o.cs.length ≤ 1099511627776
  most : o.i ≤ 9223372036854775807
theorem acts_t {p rp c : Nat} {d : Dst} {Q : Nat → Prop} (o : Dop) (ra : Option Addr) (rc : Nat) (ca : Option Addr) (cc : Nat) (w : World) (h : Bo w p rp d d c Q) (hc : c < 1099511627776) (ho : OpAt w o ra rc ca cc) (hq : ∀ b, Q b → b < w.heap.size → (0 < o.raw.length → ∀ a, ra = some a → b ≠ a.block) ∧ (0 < o.cs.length → ∀ a, ca = some a → b ≠ a.block)) :
    Calls Try.prog 35 #[.agg #[.int .i64 o.kind, .int .i64 o.i, .int .u8 (o.b.toNat : Int), .int .i64 o.size, .slice ra o.raw.length rc, .slice ca o.cs.length cc], .pointer (some ⟨p, 0, none⟩), .pointer (some ⟨rp, 0, none⟩)] w fun e w' => e = .returned (.bool true) ∧ Bo w' p rp (d.op o) (d.op o) (c + 1) (Qn Q w.heap.size) ∧ Chg Q w w' := by
  obtain ⟨kd, i, b, s, raw, cs⟩ := o
  have hm : ∀ {D : Dst}, Calls Try.prog 35 #[.agg #[.int .i64 kd, .int .i64 i, .int .u8 (b.toNat : Int), .int .i64 s, .slice ra raw.length rc, .slice ca cs.length cc], .pointer (some ⟨p, 0, none⟩), .pointer (some ⟨rp, 0, none⟩)] w (fun e w' => e = .returned (.bool true) ∧ Bo w' p rp D D c (Qn Q w.heap.size) ∧ Chg Q w w') → Calls Try.prog 35 #[.agg #[.int .i64 kd, .int .i64 i, .int .u8 (b.toNat : Int), .int .i64 s, .slice ra raw.length rc, .slice ca cs.length cc], .pointer (some ⟨p, 0, none⟩), .pointer (some ⟨rp, 0, none⟩)] w (fun e w' => e = .returned (.bool true) ∧ Bo w' p rp D D (c + 1) (Qn Q w.heap.size) ∧ Chg Q w w') := fun h9 => h9.mono (fun e w' ⟨h1, h2, h3⟩ => ⟨h1, h2.more (Nat.le_succ _) hc, h3⟩)
  by_cases h1 : kd = 1
  · subst h1
    have e9 : d.op ⟨1, i, b, s, raw, cs⟩ = d.wr i (Dop.text ⟨1, i, b, s, raw, cs⟩) := by unfold Dst.op; rw [if_pos rfl]
    rw [e9]
    exact acts_write i b s ra raw.length rc _ raw _ rfl w h hc ho.raw rfl ho.rnil ho.rmost (fun h0 a ha hf => (hq _ hf (Rd.lt ho.raw h0 a ha)).1 h0 a ha rfl)
  by_cases h2 : kd = 2
  · subst h2
    have e9 : d.op ⟨2, i, b, s, raw, cs⟩ = d.flush := by simp [Dst.op]
    rw [e9]
    exact hm (acts_flush i b s _ _ w h)
  by_cases h3 : kd = 3
  · subst h3
    have e9 : d.op ⟨3, i, b, s, raw, cs⟩ = d.cut i := by simp [Dst.op]
    rw [e9]
    exact hm (acts_cut i ho.most b s _ _ w h)
  by_cases h4 : kd = 4
  · subst h4
    have e9 : d.op ⟨4, i, b, s, raw, cs⟩ = d.crash cs := by simp [Dst.op]
    rw [e9]
    exact hm (acts_crash i b s _ ca cs.length cc cs w h rfl ho.cs ho.cnil ho.cmost (fun h0 a ha hf => (hq _ hf (Ints.lt ho.cs h0 a ha)).2 h0 a ha rfl))
  have e9 : d.op ⟨kd, i, b, s, raw, cs⟩ = d := by unfold Dst.op; rw [if_neg h1, if_neg h2, if_neg h3, if_neg h4]
  rw [e9]
  exact hm (acts_none kd ⟨h1, h2, h3, h4⟩ i b s _ _ w h)
section
set_option maxRecDepth 20000
set_option maxHeartbeats 1600000
theorem kind_in (kd : Int) (h0 : 0 ≤ kd) (h7 : kd ≤ 7) (v1 v2 v3 v4 v5 : Value) (w : World) :
    Calls Try.prog 34 #[.agg #[.int .i64 kd, v1, v2, v3, v4, v5]] w fun e w' => e = .returned (.int .i64 kd) ∧ Below w.heap.size w w' := by
  have a1 : ¬ kd < 0 := by omega
  have a2 : ¬ 7 < kd := by omega
  go_enter Try.func34, Try.ntmps34
  go_wp2
  go_ret
  exact ⟨rfl, al (Below.refl _ _) _⟩
theorem kind_out (kd : Int) (h : kd < 0 ∨ 7 < kd) (v1 v2 v3 v4 v5 : Value) (w : World) :
    Calls Try.prog 34 #[.agg #[.int .i64 kd, v1, v2, v3, v4, v5]] w fun e w' => e = .returned (.int .i64 (-1)) ∧ Below w.heap.size w w' := by
  by_cases a1 : kd < 0
  · go_enter Try.func34, Try.ntmps34
    go_wp2
    go_ret
    exact ⟨rfl, al (Below.refl _ _) _⟩
  · have a2 : 7 < kd := by omega
    clear h
    go_enter Try.func34, Try.ntmps34
    go_wp2
    go_ret
    exact ⟨rfl, al (Below.refl _ _) _⟩
end
/-- a script of operations in memory -/
def RdOps (W : World) (a : Option Addr) (xs : List Dop) : Prop := ∀ k (hk : k < xs.length), ∃ b o ra rc ca cc, a = some ⟨b, o, none⟩ ∧ W.rangeAt b (o + k * 6) [.int .i64 xs[k].kind, .int .i64 xs[k].i, .int .u8 (xs[k].b.toNat : Int), .int .i64 xs[k].size, .slice ra xs[k].raw.length rc, .slice ca xs[k].cs.length cc] ∧ OpAt W xs[k] ra rc ca cc
theorem OpAt.below {W w : World} {o : Dop} {ra : Option Addr} {rc : Nat} {ca : Option Addr} {cc : Nat} (h : OpAt W o ra rc ca cc) (hb : Below W.heap.size W w) : OpAt w o ra rc ca cc := ⟨h.raw.below hb, h.rnil, h.rmost, h.cs.below hb, h.cnil, h.cmost, h.most⟩
set_option maxRecDepth 20000 in
set_option maxHeartbeats 1600000 in
theorem played_t (ao : Option Addr) (n cap : Nat) (ys : List UInt8) (sec : Int) (a : Option Addr) (N cap2 : Nat) (xs : List Dop) (which : Int) (W : World) (hn : n = ys.length) (hx : Rd W ao ys) (hc : n ≤ cap) (hnil : ao = none → cap = 0) (hm : n ≤ 140737488351232) (hN : N = xs.length) (hops : RdOps W a xs) (hNm : N ≤ 1099511627775) :
    Calls Try.prog 20 #[.agg #[.slice ao n cap, .int .i64 sec], .slice a N cap2, .int .i64 which] W fun e w' => e = .returned (.bool true) ∧ Below W.heap.size W w' := by
  obtain ⟨X, hX⟩ : ∃ X : World, X = W.alloc (.cells #[.slice ao n cap, .int .i64 sec] 48) := ⟨_, rfl⟩
  have hXb : Below W.heap.size W X := by rw [hX]; exact al (Below.refl _ _) _
  have HXB : Hid _ := hXb
  have hbo := both_t ao cap ys sec X (Rd.below hx hXb) (by omega) hnil (by omega)
  rw [← hn] at hbo
  have HBO : Hid _ := hbo
  have HOPS : Hid _ := hops
  have HN : Hid _ := hN
  clear hx hc hnil hm hn hN hbo hops hXb
  go_enter Try.func20, Try.ntmps20
  go_wp2_with fail
  rw [← hX]
  clear hX
  refine Calls.mono HBO.out ?_
  intro e w1 hout
  clear HBO
  cases hst : startS ys sec with
  | none =>
    rw [hst] at hout
    obtain ⟨rfl, hb1⟩ := hout
    have HB1 : Hid _ := below_next HXB.out hb1
    clear hb1 hst
    go_wp2
    go_ret
    exact ⟨rfl, HB1.out⟩
  | some d0 =>
    rw [hst] at hout
    obtain ⟨p, rp, rfl, hbo, hb1⟩ := hout
    have HB1 : Hid (Below W.heap.size W w1) := below_next HXB.out hb1
    have HB0 : Hid (Bo w1 p rp d0 d0 0 (fun b => W.heap.size ≤ b)) := (BothAt.bo hbo).mono (fun b hb => Nat.le_trans (Below.size HXB.out) hb)
    clear hbo hb1 hst
    go_wp2_with fail
    go_loopw [10, 11, 12, 13] (fun j _ _ _ wr => ∃ (k : Nat) (d : Dst), k ≤ N ∧ j = .int .i64 (k : Int) ∧ Bo wr p rp d d k (fun b => W.heap.size ≤ b) ∧ Below W.heap.size W wr) (fun j _ _ _ _ => N - (intOf j).toNat)
    case atStart => exact ⟨0, d0, Nat.zero_le _, rfl, HB0.out, HB1.out⟩
    case round =>
      obtain ⟨k, d, hk, rfl, hbo, hbw⟩ := hrel
      have hkw : IntKind.i64.wrap ((k : Int) + 1) = ((k + 1 : Nat) : Int) := by rw [IntKind.wrap_i64]; omega
      have HBK : Hid _ := hbo
      have HBW : Hid _ := hbw
      clear hbo hbw HB0 HB1
      by_cases hlt : k < N
      · have hlti : (k : Int) < (N : Int) := by omega
        have hk0 : (0 : Int) ≤ (k : Int) := by omega
        obtain ⟨sb, so, ra, rc, ca, cc, rfl, hrg, hop⟩ := HOPS.out k (by rw [← HN.out]; exact hlt)
        obtain ⟨o, ho⟩ : ∃ o : Dop, o = xs[k]'(by rw [← HN.out]; exact hlt) := ⟨_, rfl⟩
        rw [← ho] at hrg hop
        have HRG : Hid (wr.rangeAt sb (so + k * 6) [.int .i64 o.kind, .int .i64 o.i, .int .u8 (o.b.toNat : Int), .int .i64 o.size, .slice ra o.raw.length rc, .slice ca o.cs.length cc]) := rangeAt_below hrg HBW.out
        have HOP : Hid _ := hop
        have hz := (zero_of_info info_op).1
        clear hrg hop ho
        obtain ⟨kd, i, b, s, raw, cs⟩ := o
        obtain ⟨rl, hrl⟩ : ∃ n : Nat, n = raw.length := ⟨_, rfl⟩
        obtain ⟨cl, hcl⟩ : ∃ n : Nat, n = cs.length := ⟨_, rfl⟩
        simp only at HRG
        rw [← hrl, ← hcl] at HRG
        have HRL : Hid (rl = raw.length ∧ cl = cs.length) := ⟨hrl, hcl⟩
        clear hrl hcl
        obtain ⟨B1, hB1⟩ : ∃ L : Nat, L = wr.heap.size := ⟨_, rfl⟩
        obtain ⟨Y, hY⟩ : ∃ Y : World, Y = wr.alloc (.cells #[.int .i64 kd, .int .i64 i, .int .u8 (b.toNat : Int), .int .i64 s, .slice ra rl rc, .slice ca cl cc] 77) := ⟨_, rfl⟩
        have hYr : Y.heap[B1]? = some (.cells #[.int .i64 kd, .int .i64 i, .int .u8 (b.toNat : Int), .int .i64 s, .slice ra rl rc, .slice ca cl cc] 77 (0, 0)) := by rw [hY, hB1]; exact heap_alloc_new wr _
        have hYb : Below wr.heap.size wr Y := by rw [hY]; exact al (Below.refl _ _) _
        have hBY : B1 < Y.heap.size := (Array.getElem?_eq_some_iff.1 hYr).1
        have HYR : Hid _ := hYr
        have HYB : Hid (Below W.heap.size W Y) := below_next HBW.out hYb
        have HBY : Hid (Bo Y p rp d d k (Q0 (fun b => W.heap.size ≤ b) wr)) := (Bo.here HBK.out).below hYb
        have HRY : Hid (Y.rangeAt B1 0 [.int .i64 kd, .int .i64 i, .int .u8 (b.toNat : Int), .int .i64 s, .slice ra rl rc, .slice ca cl cc]) := by
          have := World.rangeAt_of_block hYr 0 6
          unfold Hid
          simpa using this
        clear hYr hYb
        by_cases hkd : kd < 0 ∨ 7 < kd
        · have HK : Hid _ := kind_out kd hkd (.int .i64 i) (.int .u8 (b.toNat : Int)) (.int .i64 s) (.slice ra rl rc) (.slice ca cl cc) Y
          clear hkd
          go_wp2_with (first
            | (refine wpList_load_mid rfl 77 _ rfl sb (so + k * 6) (by rfl) [.int .i64 kd, .int .i64 i, .int .u8 (b.toNat : Int), .int .i64 s, .slice ra rl rc, .slice ca cl cc] _ HRG.out Try.underlying77 rfl (by rw [(zero_of_info info_op).2]; rfl) ?_))
          rw [← hY, ← hB1]
          have HB1e : Hid _ := hB1
          clear hY hB1
          refine Calls.mono HK.out ?_
          rintro e w2 ⟨rfl, hb2⟩
          have HB2 : Hid _ := hb2
          clear hb2
          go_wp2
          go_roundw
          case rel => exact ⟨k + 1, d, by omega, by go_num, ((Bo.below HBY.out HB2.out).mono (fun b hb => hb.1)).more (Nat.le_succ _) (by omega), below_next HYB.out HB2.out⟩
          case measure => simp [intOf]; omega
        · have hk1 : 0 ≤ kd := by omega
          have hk7 : kd ≤ 7 := by omega
          have hk1n : ¬ kd < 0 := by omega
          have HK : Hid _ := kind_in kd hk1 hk7 (.int .i64 i) (.int .u8 (b.toNat : Int)) (.int .i64 s) (.slice ra rl rc) (.slice ca cl cc) Y
          clear hkd hk1 hk7
          go_wp2_with (first
            | (refine wpList_load_mid rfl 77 _ rfl sb (so + k * 6) (by rfl) [.int .i64 kd, .int .i64 i, .int .u8 (b.toNat : Int), .int .i64 s, .slice ra rl rc, .slice ca cl cc] _ HRG.out Try.underlying77 rfl (by rw [(zero_of_info info_op).2]; rfl) ?_))
          rw [← hY, ← hB1]
          have HB1e : Hid _ := hB1
          clear hY hB1
          refine Calls.mono HK.out ?_
          rintro e w2 ⟨rfl, hb2⟩
          have HB2 : Hid _ := hb2
          have HR2 : Hid _ := rangeAt_below HRY.out hb2
          have HA2 : Hid _ := acts_t ⟨kd, i, b, s, raw, cs⟩ ra rc ca cc w2 (Bo.below HBY.out hb2) (by omega) (OpAt.below HOP.out (below_next HYB.out hb2)) (fun b9 h9 _ => ⟨fun h0 a9 ha9 e9 => by have := Rd.lt HOP.out.raw h0 a9 ha9; have h8 : W.heap.size ≤ b9 := h9.1; omega, fun h0 a9 ha9 e9 => by have := Ints.lt HOP.out.cs h0 a9 ha9; have h8 : W.heap.size ≤ b9 := h9.1; omega⟩)
          simp only at HA2
          rw [← HRL.out.1, ← HRL.out.2] at HA2
          have HBQ : Hid (¬ Q0 (fun b => W.heap.size ≤ b) wr B1) := fun hf => by have h9 : B1 < wr.heap.size := hf.2; have := HB1e.out; omega
          clear hb2 HK
          go_wp2_with (first
            | (refine wpList_load_mid rfl 77 _ rfl B1 0 (by rfl) [.int .i64 kd, .int .i64 i, .int .u8 (b.toNat : Int), .int .i64 s, .slice ra rl rc, .slice ca cl cc] _ HR2.out Try.underlying77 rfl (by rw [(zero_of_info info_op).2]; rfl) ?_))
          refine Calls.mono HA2.out ?_
          rintro e w3 ⟨rfl, hb3, hc3⟩
          have HB3 : Hid (Bo w3 p rp (d.op ⟨kd, i, b, s, raw, cs⟩) (d.op ⟨kd, i, b, s, raw, cs⟩) (k + 1) (fun b => W.heap.size ≤ b)) := hb3.mono (fun b9 h9 => by
            rcases h9 with h9 | h9
            · exact h9.1
            · exact Nat.le_trans (Below.size (below_next HYB.out HB2.out)) h9)
          have HW3 : Hid (Below W.heap.size W w3) := Below.trans (below_next HYB.out HB2.out) (hc3.below (fun b9 h9 => h9.1) (Below.size (below_next HYB.out HB2.out)))
          have hr3 : w3.rangeAt B1 0 [.int .i64 kd, .int .i64 i, .int .u8 (b.toNat : Int), .int .i64 s, .slice ra rl rc, .slice ca cl cc] := by
            have h9 : w3.heap[B1]? = _ := (hc3.block B1 (Nat.lt_of_lt_of_le hBY (Below.size HB2.out)) HBQ.out).trans ((Below.block HB2.out B1 hBY).trans HYR.out)
            have := World.rangeAt_of_block h9 0 6
            simpa using this
          have HR3 : Hid _ := hr3
          have HAK : Hid _ := asks_t kd i b s (.slice ra rl rc) (.slice ca cl cc) w3 HB3.out
          clear hb3 hc3 hr3 HA2 HR2
          go_wp2_with (first
            | (refine wpList_load_mid rfl 77 _ rfl B1 0 (by rfl) [.int .i64 kd, .int .i64 i, .int .u8 (b.toNat : Int), .int .i64 s, .slice ra rl rc, .slice ca cl cc] _ HR3.out Try.underlying77 rfl (by rw [(zero_of_info info_op).2]; rfl) ?_))
          refine Calls.mono HAK.out ?_
          rintro e w4 ⟨rfl, hb4⟩
          have HB4 : Hid _ := hb4
          clear hb4 HAK
          go_wp2
          go_roundw
          case rel => exact ⟨k + 1, d.op ⟨kd, i, b, s, raw, cs⟩, by omega, by go_num, Bo.below HB3.out HB4.out, below_next HW3.out HB4.out⟩
          case measure => simp [intOf]; omega
      · have hlti : ¬ (k : Int) < (N : Int) := by omega
        have HIL : Hid _ := Bo.imgLen HBK.out
        obtain ⟨T, hT⟩ : ∃ T, T = img d.S := ⟨_, rfl⟩
        have HF1 : Hid _ := Bo.image HBK.out
        rw [← hT] at HF1 HIL
        have HF2 : Hid (∀ u, Below wr.heap.size wr u → Calls Try.prog 37 #[.pointer (some ⟨rp, 0, none⟩)] u fun e w' => ∃ v, e = .returned v ∧ Own w' u.heap.size v T ∧ Below u.heap.size u w') := fun u hu => by rw [hT]; exact Bo.rimage (Bo.below HBK.out hu)
        clear hT
        go_wp2_with fail
        refine Calls.mono HF1.out ?_
        rintro e w1 ⟨v1, rfl, ho1, hb1⟩
        obtain ⟨a1, c1, rfl, -, -, -, hr1, -⟩ := ho1.val
        have HR1 : Hid _ := hr1
        have HB1 : Hid _ := hb1
        have HF2' : Hid _ := HF2.out w1 hb1
        clear ho1 hr1 hb1 HF1 HF2
        go_wp2_with fail
        refine Calls.mono HF2'.out ?_
        rintro e w2 ⟨v2, rfl, ho2, hb2⟩
        obtain ⟨a2, c2, rfl, -, -, -, hr2, -⟩ := ho2.val
        have hbt := byt_t a1 a2 c1 c2 T T w2 (Rd.below HR1.out hb2) hr2 (by have := HIL.out; omega) (by have := HIL.out; omega)
        rw [beq_self_eq_true] at hbt
        have HBT : Hid _ := hbt
        have HB2 : Hid (Below W.heap.size W w2) := below_next HBW.out (below_next HB1.out hb2)
        clear ho2 hr2 hb2 hbt HF2'
        go_wp2_with fail
        refine Calls.mono HBT.out ?_
        rintro e w3 ⟨rfl, hb3⟩
        have HB3 : Hid (Below W.heap.size W w3) := below_next HB2.out hb3
        clear hb3
        go_wp2
        go_ret
        exact ⟨by first | rfl | simp, HB3.out⟩
end Go.Proofs.Ytgdkiejlggiakac
