import Derived.Test.YtpakkpahcpgnnaaGreatDoorVWhJ
import Derived.Deep.RegionWith
set_option linter.unusedVariables false
set_option linter.unusedSimpArgs false
namespace Go.Proofs.YtpakkpahcpgnnaaGreatDoor.Wh
open Go.RowKit Go.Maps
def putF (F : Nat → Nat → List Tm) (N : Nat) (t : Tm) : Nat → Nat → List Tm := if lev t.at_ N < 8 then upd2 F (lev t.at_ N) (slt t.at_ (lev t.at_ N)) (F (lev t.at_ N) (slt t.at_ (lev t.at_ N)) ++ [t]) else F
def putPl (F : Nat → Nat → List Tm) (N : Nat) (t : Tm) : Pl := ⟨lev t.at_ N, slt t.at_ (lev t.at_ N), if lev t.at_ N < 8 then (F (lev t.at_ N) (slt t.at_ (lev t.at_ N))).length else 0⟩
theorem lev_le8 {a n : Nat} (h : n < a) (ha : a ≤ mxN + 1) : lev a n ≤ 8 := by
 have ha' : a ≤ 281474976710656 := ha
 by_cases h1 : a ≤ mxN
 · exact Nat.le_of_lt (lev_lt8 h h1)
 · have h0 : a ^^^ n ≠ 0 := fun e => by have := xor_zero e; omega
   have hlt : a ^^^ n < 2 ^ 49 := Nat.xor_lt_two_pow (by omega) (by omega); have hlg : (a ^^^ n).log2 < 49 := (Nat.log2_lt h0).2 hlt; unfold lev; omega
section
variable {w w' : World} {p m N S : Nat} {F : Nat → Nat → List Tm} {V : Nat → Nat → Value} {fl : Nat → Nat} {K : List Int} {X : Int → Pl}
theorem add_q (h : Wx w p m N S F K X V) (k s q : Nat) (hk : k < 8) (hs : s < 64) (hq : q = 2 + 65 * k) (t : Tm) (hl : (F k s).length ≤ 4398046511104) :
 Calls Tryz.prog 158 #[.pointer (some ⟨p, q, none⟩), .int .i64 (s : Int), tma t] w fun e w' => e = .returned (.int .i64 ((F k s).length : Int)) ∧ ∃ V', Wx w' p m N S (upd2 F k s (F k s ++ [t])) K X V' ∧ Stp w w' p m V V' := by
 subst hq; exact add_w h k s hk hs t hl
theorem remove_q (h : Wx w p m N S F K X V) (k s i q : Nat) (hk : k < 8) (hs : s < 64) (hq : q = 2 + 65 * k) (hi : i < (F k s).length) :
 Calls Tryz.prog 137 #[.pointer (some ⟨p, q, none⟩), .int .i64 (s : Int), .int .i64 (i : Int)] w fun e w' => (∃ t, e = .returned (.tuple #[tma t, .bool (decide (i < (F k s).length - 1))]) ∧ (i < (F k s).length - 1 → t = (F k s).getD ((F k s).length - 1) ⟨0, 0, 0⟩)) ∧ ∃ V', Wx w' p m N S (upd2 F k s (remL (F k s) i)) K X V' ∧ Stp w w' p m V V' := by
 subst hq; exact remove_w h k s i hk hs hi
theorem Whl.mapped {K' : List Int} {X' : Int → Pl} (h : Whl w p m N S F V fl K X) (hg : w.grownBy w' (some m)) (hm : MapW w' m K' X') : Whl w' p m N S F V fl K' X' := by
 obtain ⟨C, h1, h2⟩ := h.blk; refine ⟨⟨C, (hg.block p (h.lt (.inl rfl)) (fun e => h.pm (Option.some.inj e))).trans h1, h2⟩, fun k s hk hs => rowM_kept (h.rows k s hk hs) (fun b hb => hg.block b (h.lt (.inr (.inr ⟨k, s, hk, hs, hb⟩))) (fun e => h.mV hk hs (hb.trans e))), h.apart, hm, h.fw⟩
theorem Stp.mapped (hg : w.grownBy w' (some m)) : Stp w w' p m V V := ⟨Chg.of_grown hg (fun b e => .inr (.inl (Option.some.inj e).symm)), fun _ h => .inl h⟩
set_option maxRecDepth 20000 in
set_option maxHeartbeats 1600000 in
theorem put_w (h : Wx w p m N S F K X V) (t : Tm) (hN : N < t.at_) (ha : t.at_ ≤ mxN + 1) (hid : inI t.id) (hK : K.length ≤ 4398046511104) (hF : ∀ k s, k < 8 → s < 64 → (F k s).length ≤ 4398046511104) :
 Calls Tryz.prog 121 #[.pointer (some ⟨p, 0, none⟩), tma t] w fun e w' => e = .returned (.tuple #[]) ∧ ∃ V', Wx w' p m N S (putF F N t) (insK K t.id) (updI X t.id (putPl F N t)) V' ∧ Stp w w' p m V V' := by
 obtain ⟨k, hk⟩ : ∃ k, k = lev t.at_ N := ⟨_, rfl⟩; obtain ⟨s, hs⟩ : ∃ s, s = slt t.at_ k := ⟨_, rfl⟩; have hsl : s < 64 := by rw [hs]; exact slt_lt _ _
 have hk8 : k ≤ 8 := by rw [hk]; exact lev_le8 hN ha
 have HST : Hid (∀ u : World, Calls Tryz.prog 122 #[.int .u64 (t.at_ : Int), .int .u64 (N : Int)] u fun e w' => e = .returned (.tuple #[.int .i64 (k : Int), .int .i64 (s : Int)]) ∧ ∃ n, w' = u.drewN n) := fun u => by
  have h9 := stand_t t.at_ N hN ha u; rw [← hk, ← hs] at h9; exact h9
 have hpl := Wx.lt h (.inl rfl : footW p m V p); have hcN : w.cell? ⟨p, 0, none⟩ = some (.int .u64 (N : Int)) := by obtain ⟨fl, h7, -⟩ := h; exact h7.cN
 have HX : Hid _ := h; have HK : Hid _ := hk; have HS : Hid _ := hs; have HF : Hid _ := hF; clear h hk hs hF hN ha; go_enter Tryz.func121, Tryz.ntmps121
 go_wp2; go_quiet ((go_at_call 122; exact Calls.quiet_of (HST.out _)))
 by_cases hk7 : k < 8
 · have hki : (k : Int) < 8 := by omega
   go_wp2
   have hb1 : Below w.heap.size w (((w.alloc (Obj.cells #[.int .i64 t.id, .int .u64 (t.at_ : Int), .int .u64 (t.ord : Int)] tTm)).drewN nq).alloc (Obj.cells #[.int .i64 (k : Int), .int .i64 (s : Int), .int .i64 0] tPl)) := by
    rw [alloc_drewN]; exact (al (al (Below.refl _ w) _) _).trans (Drw.below ⟨nq, rfl⟩ _)
   obtain ⟨w2, hw2⟩ : ∃ w2, w2 = (((w.alloc (Obj.cells #[.int .i64 t.id, .int .u64 (t.at_ : Int), .int .u64 (t.ord : Int)] tTm)).drewN nq).alloc (Obj.cells #[.int .i64 (k : Int), .int .i64 (s : Int), .int .i64 0] tPl)) := ⟨_, rfl⟩
   have hA : w2.heap[w.heap.size]? = some (.cells #[.int .i64 t.id, .int .u64 (t.at_ : Int), .int .u64 (t.ord : Int)] tTm (0, 0)) := by
    rw [hw2, alloc_drewN]; exact (heap_alloc_old (w.alloc (Obj.cells #[.int .i64 t.id, .int .u64 (t.at_ : Int), .int .u64 (t.ord : Int)] tTm)) _ (by simp)).trans (heap_alloc_new w _)
   have hB : w2.heap[w.heap.size + 1]? = some (.cells #[.int .i64 (k : Int), .int .i64 (s : Int), .int .i64 0] tPl (0, 0)) := by
    rw [hw2, alloc_drewN]; have := heap_alloc_new (w.alloc (Obj.cells #[.int .i64 t.id, .int .u64 (t.at_ : Int), .int .u64 (t.ord : Int)] tTm)) (Obj.cells #[.int .i64 (k : Int), .int .i64 (s : Int), .int .i64 0] tPl)
    simpa using this
   rw [← hw2] at hb1; rw [← hw2]; clear hw2; obtain ⟨P, hP⟩ : ∃ P, P = w.heap.size := ⟨_, rfl⟩; rw [← hP] at hA hB ⊢; have HP : Hid _ := hP; have HB1 : Hid _ := hb1; have HA2 : Hid _ := hA; have HB2 : Hid _ := hB; obtain ⟨r0, r1, r2⟩ : w2.cell? ⟨P, 0, none⟩ = some (.int .i64 t.id) ∧ w2.cell? ⟨P, 1, none⟩ = some (.int .u64 (t.at_ : Int)) ∧ w2.cell? ⟨P, 2, none⟩ = some (.int .u64 (t.ord : Int)) := ⟨by rw [cR hA]; rfl, by rw [cR hA]; rfl, by rw [cR hA]; rfl⟩; clear hA hB hb1 hP; go_region_with (go_at_call 158; refine Calls.mono (add_q (Wx.below HX.out HB1.out.drew) k s _ hk7 hsl (by omega) t (HF.out k s hk7 hsl)) ?_; rintro e w4 ⟨rfl, V4, hx4, hst4⟩; have hA4 := (hst4.chg.block P (sI HA2.out).1 (fun h9 => Nat.lt_irrefl _ (HP.out ▸ Wx.lt HX.out h9))).trans HA2.out; have hB4 := (hst4.chg.block (P + 1) (sI HB2.out).1 (fun h9 => Nat.lt_irrefl _ (Nat.lt_of_succ_lt (HP.out ▸ Wx.lt HX.out h9)))).trans HB2.out; obtain ⟨s0, s1, s2, g2⟩ : w4.cell? ⟨P + 1, 0, none⟩ = some (.int .i64 (k : Int)) ∧ w4.cell? ⟨P + 1, 1, none⟩ = some (.int .i64 (s : Int)) ∧ w4.cell? ⟨P + 1, 2, none⟩ = some (.int .i64 0) ∧ w4.frozen? ⟨P + 1, 2, none⟩ = false := ⟨by rw [cR hB4]; rfl, by rw [cR hB4]; rfl, by rw [cR hB4]; rfl, by simp [World.frozen?, hB4]⟩; have HA4 : Hid _ := hA4; have HB4 : Hid _ := hB4; have HX4 : Hid _ := hx4; have HS4 : Hid _ := hst4; clear hA4 hB4 hx4 hst4)
   obtain ⟨w5, hw5⟩ : ∃ w5, w5 = w4.setCell ⟨P + 1, 2, none⟩ (.int .i64 ((F k s).length : Int)) := ⟨_, rfl⟩
   have hnf : ¬ footW p m V4 (P + 1) := fun h9 => by
    rcases HS4.out.new _ h9 with h8 | h8
    · have h7 := Wx.lt HX.out h8; have := HP.out; omega
    · have h7 := (sI HB2.out).1; have : w2.drew.heap.size = w2.heap.size := rfl; omega
   have hx5 : Wx w5.drew p m N S (upd2 F k s (F k s ++ [t])) K X V4 := by
    obtain ⟨fl, h1, h2, hz⟩ := HX4.out; refine ⟨fl, h1.kept (fun b hf => ?_), h2, hz⟩; rw [hw5]; exact heap_setCell_other _ _ _ _ (fun e => hnf (by have e' : b = P + 1 := e; rw [← e']; exact hf))
   have hA5 : w5.heap[P]? = some (.cells #[.int .i64 t.id, .int .u64 (t.at_ : Int), .int .u64 (t.ord : Int)] tTm (0, 0)) := by
    rw [hw5]; exact (heap_setCell_other _ _ _ _ (by simp)).trans HA4.out
   have hB5 : w5.heap[P + 1]? = some (.cells #[.int .i64 (k : Int), .int .i64 (s : Int), .int .i64 ((F k s).length : Int)] tPl (0, 0)) := by
    rw [hw5]; exact (heap_setCell_same _ _ _ _ _ _ HB4.out).trans rfl
   have r5 : w5.cell? ⟨P, 0, none⟩ = some (.int .i64 t.id) := by rw [cR hA5]; rfl
   obtain ⟨b0, b1, b2⟩ : w5.cell? ⟨P + 1, 0, none⟩ = some (.int .i64 (k : Int)) ∧ w5.cell? ⟨P + 1, 1, none⟩ = some (.int .i64 (s : Int)) ∧ w5.cell? ⟨P + 1, 2, none⟩ = some (.int .i64 ((F k s).length : Int)) := ⟨by rw [cR hB5]; rfl, by rw [cR hB5]; rfl, by rw [cR hB5]; rfl⟩
   have hst5 : Stp w w5.drew p m V V4 := by
    refine ((Stp.below HB1.out.drew p m V).trans HS4.out).belowEnd (B := P) ?_ (Nat.le_of_eq HP.out.symm); rw [hw5]; exact ((bR _ _).setCell (by simp) _).drew
   rw [← hw5]; have HX5 : Hid _ := hx5; have HST5 : Hid _ := hst5; clear hw5 hA5 hB5 hx5 hst5 r0 r1 r2 s0 s1 s2 g2 hnf; obtain ⟨fl, h1, h2, hz⟩ := HX5.out; obtain ⟨w9, hr9, hm9, hg9⟩ := h1.map.put hid ⟨k, s, (F k s).length⟩ hK; have hcM : w5.cell? ⟨p, 522, none⟩ = some (.map (some m)) := h1.cM; have H1 : Hid _ := h1; have H2 : Hid _ := And.intro h2 hz; have HM9 : Hid _ := hm9; have HG9 : Hid _ := hg9; clear h1 h2 hz hm9 hg9; go_wp2; go_region
   go_end0; have e1 : putF F N t = upd2 F k s (F k s ++ [t]) := by unfold putF; rw [← HK.out, ← HS.out, if_pos hk7]
   have e2 : putPl F N t = ⟨k, s, (F k s).length⟩ := by unfold putPl; rw [← HK.out, ← HS.out, if_pos hk7]
   rw [e1, e2]; exact ⟨rfl, V4, ⟨fl, H1.out.mapped HG9.out HM9.out, H2.out.1, H2.out.2⟩, HST5.out.trans (Stp.mapped HG9.out)⟩
 · obtain rfl : k = 8 := by omega
   go_wp2
   have hb1 : Below w.heap.size w (((w.alloc (Obj.cells #[.int .i64 t.id, .int .u64 (t.at_ : Int), .int .u64 (t.ord : Int)] tTm)).drewN nq).alloc (Obj.cells #[.int .i64 8, .int .i64 (s : Int), .int .i64 0] tPl)).drew := by
    rw [alloc_drewN]; exact ((al (al (Below.refl _ w) _) _).trans (Drw.below ⟨nq, rfl⟩ _)).drew
   have hX1 := Wx.below HX.out hb1; obtain ⟨fl, h1, h2, hz⟩ := hX1; obtain ⟨w9, hr9, hm9, hg9⟩ := h1.map.put hid ⟨8, s, 0⟩ hK; have hcM := h1.cM
   change (Instr.mapUpdate tMp (.map (some m)) (.int .i64 t.id) (.agg #[.int .i64 8, .int .i64 (s : Int), .int .i64 0])).run Tryz.prog _ = _ at hr9
   go_region
   go_end0; have hst := (Stp.below hb1 p m V).trans (Stp.mapped hg9); have e1 : putF F N t = F := by unfold putF; rw [if_neg (by rw [← HK.out]; omega)]
   have e2 : putPl F N t = ⟨8, s, 0⟩ := by unfold putPl; rw [← HK.out, ← HS.out]; rfl
   rw [e1, e2]; exact ⟨rfl, V, ⟨fl, h1.mapped hg9 hm9, h2, hz⟩, hst⟩
end
end Go.Proofs.YtpakkpahcpgnnaaGreatDoor.Wh
namespace Go.Proofs.YtpakkpahcpgnnaaGreatDoor.Wh
open Go.RowKit Go.Maps
section
variable {w w' : World} {p m N S : Nat} {F : Nat → Nat → List Tm} {V : Nat → Nat → Value} {fl : Nat → Nat} {K : List Int} {X : Int → Pl}
set_option maxRecDepth 20000 in
set_option maxHeartbeats 1600000 in
theorem leave_8 (h : Wx w p m N S F K X V) (s i : Nat) :
 Calls Tryz.prog 111 #[.pointer (some ⟨p, 0, none⟩), plv ⟨8, s, i⟩] w fun e w' => e = .returned (.tuple #[]) ∧ Wx w' p m N S F K X V ∧ Stp w w' p m V V := by
 go_enter Tryz.func111, Tryz.ntmps111
 go_wp2; refine bodyPost_ret (results_none rfl _ _ _) rfl ?_; exact ⟨rfl, h.below (al (bR _ _) _), Stp.below (al (bR _ _) _) _ _ _⟩
theorem cell3 {w : World} {P : Nat} {a b c : Value} {t : TypeId} (h : w.heap[P]? = some (.cells #[a, b, c] t (0, 0))) : w.cell? ⟨P, 0, none⟩ = some a ∧ w.cell? ⟨P, 1, none⟩ = some b ∧ w.cell? ⟨P, 2, none⟩ = some c :=
 ⟨by rw [cR h]; rfl, by rw [cR h]; rfl, by rw [cR h]; rfl⟩
def leaveX (F : Nat → Nat → List Tm) (X : Int → Pl) (k s i : Nat) : Int → Pl := if i < (F k s).length - 1 then updI X ((F k s).getD ((F k s).length - 1) ⟨0, 0, 0⟩).id ⟨k, s, i⟩ else X
set_option maxRecDepth 20000 in
set_option maxHeartbeats 1600000 in
theorem leave_w {KS : List Int} (h : Wx w p m N S F KS X V) (k s i : Nat) (hk : k < 8) (hs : s < 64) (hi : i < (F k s).length) (hK : KS.length ≤ 4398046511104) (hm : i < (F k s).length - 1 → ((F k s).getD ((F k s).length - 1) ⟨0, 0, 0⟩).id ∈ KS) :
 Calls Tryz.prog 111 #[.pointer (some ⟨p, 0, none⟩), plv ⟨k, s, i⟩] w fun e w' => e = .returned (.tuple #[]) ∧ ∃ V', Wx w' p m N S (upd2 F k s (remL (F k s) i)) KS (leaveX F X k s i) V' ∧ Stp w w' p m V V' := by
 have hki : (k : Int) < 8 := by omega
 have hk8 : ((k : Int) == 8) = false := by simp; omega
 have HX : Hid _ := h; have HKL : Hid _ := hK; have HI : Hid _ := hi; have HM : Hid _ := hm; have hpl := Wx.lt h (.inl rfl : footW p m V p); clear h hi hm hK; go_enter Tryz.func111, Tryz.ntmps111
 go_wp2; obtain ⟨w2, hw2⟩ : ∃ w2, w2 = w.alloc (Obj.cells #[.int .i64 (k : Int), .int .i64 (s : Int), .int .i64 (i : Int)] tPl) := ⟨_, rfl⟩; have hb1 : Below w.heap.size w w2 := by rw [hw2]; exact al (bR _ _) _
 obtain ⟨P, hP⟩ : ∃ P, P = w.heap.size := ⟨_, rfl⟩
 have hA : w2.heap[P]? = some (.cells #[.int .i64 (k : Int), .int .i64 (s : Int), .int .i64 (i : Int)] tPl (0, 0)) := by
  rw [hw2, hP]; exact heap_alloc_new w _
 rw [← hw2]; rw [← hP]; have HP : Hid _ := hP; have HB1 : Hid _ := hb1; have HA2 : Hid _ := hA; obtain ⟨r0, r1, r2⟩ : w2.cell? ⟨P, 0, none⟩ = some (.int .i64 (k : Int)) ∧ w2.cell? ⟨P, 1, none⟩ = some (.int .i64 (s : Int)) ∧ w2.cell? ⟨P, 2, none⟩ = some (.int .i64 (i : Int)) := ⟨by rw [cR hA]; rfl, by rw [cR hA]; rfl, by rw [cR hA]; rfl⟩; have HW2 : Hid _ := hw2; clear hA hb1 hP hw2; have hPs : w2.heap.size = P + 1 := by rw [HW2.out, HP.out]; simp
 have HPS : Hid _ := hPs; have HBN : Hid ((w2.alloc (Obj.cells #[.int .i64 0, .int .u64 0, .int .u64 0] tTm)).drew.heap[w2.heap.size]? = some (.cells #[.int .i64 0, .int .u64 0, .int .u64 0] tTm (0, 0))) := heap_alloc_new w2 _; have hPlt : P < w2.heap.size := by omega
 clear hPs; have hS2 := cell3 HA2.out; have HS2A : Hid (∀ o : Obj, (w2.alloc o).cell? ⟨P, 0, none⟩ = some (.int .i64 (k : Int)) ∧ (w2.alloc o).cell? ⟨P, 1, none⟩ = some (.int .i64 (s : Int)) ∧ (w2.alloc o).cell? ⟨P, 2, none⟩ = some (.int .i64 (i : Int))) := fun o => cell3 ((heap_alloc_old w2 o hPlt).trans HA2.out)
 refine wp_region_noPanic ?_; refine wp_region_held_drew (S := (fun u => u.cell? ⟨P, 0, none⟩ = some (.int .i64 (k : Int)) ∧ u.cell? ⟨P, 1, none⟩ = some (.int .i64 (s : Int)) ∧ u.cell? ⟨P, 2, none⟩ = some (.int .i64 (i : Int)))) (by kernel_rfl) (by first | exact hS2 | exact hS4 | exact HS2A.out _ | exact HS4A.out _ | exact HS4S.out _ _ _) (fun hHeld => ?_); refine tz 0 10 hHeld ?_; simp only [pS]; refine tz 1 11 hHeld ?_; simp only [pS]; refine tz 2 12 hHeld ?_; simp only [pS]; refine tz 3 13 hHeld ?_; simp only [pS]; refine tz 4 14 hHeld ?_; simp only [pS]; refine tz 5 15 hHeld ?_; simp only [pS]; refine tz 6 16 hHeld ?_; simp only [pS]; refine tz 7 17 hHeld ?_; simp only [pS]; refine tz 8 18 hHeld ?_; simp only [pS]; refine tz 9 19 hHeld ?_; simp only [pS]; refine wpAnyH_ready (rs := [10, 14]) (by kernel_rfl) (by simp) ?_; refine AllReadyH.cons (o := _) rfl (fun K hK => ?_) ?_
 focus
  rw [if_pos (by rfl)]; simp only [gE]; go_simp
  (go_at_call 137; first | (refine Calls.mono (remove_q (Wx.below HX.out HB1.out.drew) k s i _ hk hs (by omega) HI.out) ?_; rintro e w4 ⟨⟨t, rfl, ht⟩, V4, hx4, hst4⟩; have hA4 := (hst4.chg.block P (by show P < w2.heap.size; rw [HPS.out]; omega) (fun h9 => Nat.lt_irrefl _ (HP.out ▸ Wx.lt HX.out h9))).trans HA2.out; have hS4 := cell3 hA4; have HS4A : Hid (∀ o : Obj, (w4.alloc o).cell? ⟨P, 0, none⟩ = some (.int .i64 (k : Int)) ∧ (w4.alloc o).cell? ⟨P, 1, none⟩ = some (.int .i64 (s : Int)) ∧ (w4.alloc o).cell? ⟨P, 2, none⟩ = some (.int .i64 (i : Int))) := fun o => cell3 ((heap_alloc_old w4 o (sI hA4).1).trans hA4); have HA4 : Hid _ := hA4; have HX4 : Hid _ := hx4; have HS4 : Hid (Stp w w4 p m V V4) := (Stp.below HB1.out.drew p m V).trans hst4; have HT : Hid _ := ht; clear hA4 hx4 hst4 ht) | (refine Calls.mono (remove_q (Wx.below HX.out (al HB1.out (Obj.cells #[.int .i64 0, .int .u64 0, .int .u64 0] tTm)).drew) k s i _ hk hs (by omega) HI.out) ?_; rintro e w4 ⟨⟨t, rfl, ht⟩, V4, hx4, hst4⟩; have hA4 := (hst4.chg.block P (by show P < (w2.alloc _).heap.size; simp; rw [HPS.out]; omega) (fun h9 => Nat.lt_irrefl _ (HP.out ▸ Wx.lt HX.out h9))).trans ((heap_alloc_old w2 _ (by rw [HPS.out]; omega)).trans HA2.out); have hS4 := cell3 hA4; have HS4S : Hid (∀ a b c : Value, (((w4.setCell ⟨w2.heap.size, 0, none⟩ a).setCell ⟨w2.heap.size, 1, none⟩ b).setCell ⟨w2.heap.size, 2, none⟩ c).cell? ⟨P, 0, none⟩ = some (.int .i64 (k : Int)) ∧ (((w4.setCell ⟨w2.heap.size, 0, none⟩ a).setCell ⟨w2.heap.size, 1, none⟩ b).setCell ⟨w2.heap.size, 2, none⟩ c).cell? ⟨P, 1, none⟩ = some (.int .i64 (s : Int)) ∧ (((w4.setCell ⟨w2.heap.size, 0, none⟩ a).setCell ⟨w2.heap.size, 1, none⟩ b).setCell ⟨w2.heap.size, 2, none⟩ c).cell? ⟨P, 2, none⟩ = some (.int .i64 (i : Int))) := fun a b c => cell3 ((heap_setCell_other _ _ _ _ (Nat.ne_of_lt hPlt)).trans ((heap_setCell_other _ _ _ _ (Nat.ne_of_lt hPlt)).trans ((heap_setCell_other _ _ _ _ (Nat.ne_of_lt hPlt)).trans hA4))); have HA4 : Hid _ := hA4; have HX4 : Hid _ := hx4; have HS4 : Hid (Stp w w4 p m V V4) := (Stp.below (al HB1.out (Obj.cells #[.int .i64 0, .int .u64 0, .int .u64 0] tTm)).drew p m V).trans hst4; have hB4 : w4.heap[w2.heap.size]? = some (.cells #[.int .i64 0, .int .u64 0, .int .u64 0] tTm (0, 0)) := (hst4.chg.block w2.heap.size (by show w2.heap.size < (w2.alloc _).heap.size; simp) (fun h9 => by have h8 := Wx.lt HX.out h9; rw [HPS.out, HP.out] at h8; omega)).trans (HBN.out); obtain ⟨c0, c1, c2, f0, f1, f2⟩ : w4.cell? ⟨w2.heap.size, 0, none⟩ = some (.int .i64 0) ∧ w4.cell? ⟨w2.heap.size, 1, none⟩ = some (.int .u64 0) ∧ w4.cell? ⟨w2.heap.size, 2, none⟩ = some (.int .u64 0) ∧ w4.frozen? ⟨w2.heap.size, 0, none⟩ = false ∧ w4.frozen? ⟨w2.heap.size, 1, none⟩ = false ∧ w4.frozen? ⟨w2.heap.size, 2, none⟩ = false := ⟨by rw [cR hB4]; rfl, by rw [cR hB4]; rfl, by rw [cR hB4]; rfl, by simp [World.frozen?, hB4], by simp [World.frozen?, hB4], by simp [World.frozen?, hB4]⟩; have HB4 : Hid _ := hB4; have HN4 : Hid (¬ footW p m V4 w2.heap.size) := fun h9 => (hst4.new _ h9).elim (fun h8 => by have h7 := Wx.lt HX.out h8; rw [HPS.out, HP.out] at h7; omega) (fun h8 => Nat.not_succ_le_self w2.heap.size (by simpa using h8)); have HT : Hid _ := ht; clear hA4 hB4 hx4 hst4 ht))
  (go_wp2_with fail); refine hK.out _ _ (by first | exact hS2 | exact hS4 | exact HS2A.out _ | exact HS4A.out _ | exact HS4S.out _ _ _) ?_; clear hK K; clear hHeld; intro hHeld; (try simp only [pS]); refine tz 11 9 hHeld ?_; simp only [pS]; refine tz 12 21 hHeld ?_; simp only [pS]; refine tz 13 22 hHeld ?_; simp only [pS]; refine run_at (i := 14) rfl (by kernel_rfl) (by rfl) (fun K hK => ?_); simp only [gE]; go_simp; (go_wp2_with fail); refine hK.out _ _ (by first | exact hS2 | exact hS4 | exact HS2A.out _ | exact HS4A.out _ | exact HS4S.out _ _ _) ?_; clear hK K; clear hHeld; intro hHeld; (try simp only [pS]); refine run_at (i := 15) rfl (by kernel_rfl) (by rfl) (fun K hK => ?_); simp only [gE]; go_simp; (go_wp2_with fail); refine hK.out _ _ (by first | exact hS2 | exact hS4 | exact HS2A.out _ | exact HS4A.out _ | exact HS4S.out _ _ _) ?_; clear hK K; clear hHeld; intro hHeld; (try simp only [pS]); refine tz 16 5 hHeld ?_; simp only [pS]; refine wpAnyH_done (by kernel_rfl) ?_ _; refine NoPanic.normal ?_
 rotate_left 1; refine AllReadyH.cons (o := _) rfl (fun K hK => ?_) AllReadyH.nil
 focus
  rw [if_pos (by rfl)]; simp only [gE]; go_simp; (go_wp2_with fail); refine hK.out _ _ (by first | exact hS2 | exact hS4 | exact HS2A.out _ | exact HS4A.out _ | exact HS4S.out _ _ _) ?_; clear hK K; clear hHeld; intro hHeld; (try simp only [pS]); refine run_at (i := 10) rfl (by kernel_rfl) (by rfl) (fun K hK => ?_); simp only [gE]; go_simp
  (go_at_call 137; first | (refine Calls.mono (remove_q (Wx.below HX.out HB1.out.drew) k s i _ hk hs (by omega) HI.out) ?_; rintro e w4 ⟨⟨t, rfl, ht⟩, V4, hx4, hst4⟩; have hA4 := (hst4.chg.block P (by show P < w2.heap.size; rw [HPS.out]; omega) (fun h9 => Nat.lt_irrefl _ (HP.out ▸ Wx.lt HX.out h9))).trans HA2.out; have hS4 := cell3 hA4; have HS4A : Hid (∀ o : Obj, (w4.alloc o).cell? ⟨P, 0, none⟩ = some (.int .i64 (k : Int)) ∧ (w4.alloc o).cell? ⟨P, 1, none⟩ = some (.int .i64 (s : Int)) ∧ (w4.alloc o).cell? ⟨P, 2, none⟩ = some (.int .i64 (i : Int))) := fun o => cell3 ((heap_alloc_old w4 o (sI hA4).1).trans hA4); have HA4 : Hid _ := hA4; have HX4 : Hid _ := hx4; have HS4 : Hid (Stp w w4 p m V V4) := (Stp.below HB1.out.drew p m V).trans hst4; have HT : Hid _ := ht; clear hA4 hx4 hst4 ht) | (refine Calls.mono (remove_q (Wx.below HX.out (al HB1.out (Obj.cells #[.int .i64 0, .int .u64 0, .int .u64 0] tTm)).drew) k s i _ hk hs (by omega) HI.out) ?_; rintro e w4 ⟨⟨t, rfl, ht⟩, V4, hx4, hst4⟩; have hA4 := (hst4.chg.block P (by show P < (w2.alloc _).heap.size; simp; rw [HPS.out]; omega) (fun h9 => Nat.lt_irrefl _ (HP.out ▸ Wx.lt HX.out h9))).trans ((heap_alloc_old w2 _ (by rw [HPS.out]; omega)).trans HA2.out); have hS4 := cell3 hA4; have HS4S : Hid (∀ a b c : Value, (((w4.setCell ⟨w2.heap.size, 0, none⟩ a).setCell ⟨w2.heap.size, 1, none⟩ b).setCell ⟨w2.heap.size, 2, none⟩ c).cell? ⟨P, 0, none⟩ = some (.int .i64 (k : Int)) ∧ (((w4.setCell ⟨w2.heap.size, 0, none⟩ a).setCell ⟨w2.heap.size, 1, none⟩ b).setCell ⟨w2.heap.size, 2, none⟩ c).cell? ⟨P, 1, none⟩ = some (.int .i64 (s : Int)) ∧ (((w4.setCell ⟨w2.heap.size, 0, none⟩ a).setCell ⟨w2.heap.size, 1, none⟩ b).setCell ⟨w2.heap.size, 2, none⟩ c).cell? ⟨P, 2, none⟩ = some (.int .i64 (i : Int))) := fun a b c => cell3 ((heap_setCell_other _ _ _ _ (Nat.ne_of_lt hPlt)).trans ((heap_setCell_other _ _ _ _ (Nat.ne_of_lt hPlt)).trans ((heap_setCell_other _ _ _ _ (Nat.ne_of_lt hPlt)).trans hA4))); have HA4 : Hid _ := hA4; have HX4 : Hid _ := hx4; have HS4 : Hid (Stp w w4 p m V V4) := (Stp.below (al HB1.out (Obj.cells #[.int .i64 0, .int .u64 0, .int .u64 0] tTm)).drew p m V).trans hst4; have hB4 : w4.heap[w2.heap.size]? = some (.cells #[.int .i64 0, .int .u64 0, .int .u64 0] tTm (0, 0)) := (hst4.chg.block w2.heap.size (by show w2.heap.size < (w2.alloc _).heap.size; simp) (fun h9 => by have h8 := Wx.lt HX.out h9; rw [HPS.out, HP.out] at h8; omega)).trans (HBN.out); obtain ⟨c0, c1, c2, f0, f1, f2⟩ : w4.cell? ⟨w2.heap.size, 0, none⟩ = some (.int .i64 0) ∧ w4.cell? ⟨w2.heap.size, 1, none⟩ = some (.int .u64 0) ∧ w4.cell? ⟨w2.heap.size, 2, none⟩ = some (.int .u64 0) ∧ w4.frozen? ⟨w2.heap.size, 0, none⟩ = false ∧ w4.frozen? ⟨w2.heap.size, 1, none⟩ = false ∧ w4.frozen? ⟨w2.heap.size, 2, none⟩ = false := ⟨by rw [cR hB4]; rfl, by rw [cR hB4]; rfl, by rw [cR hB4]; rfl, by simp [World.frozen?, hB4], by simp [World.frozen?, hB4], by simp [World.frozen?, hB4]⟩; have HB4 : Hid _ := hB4; have HN4 : Hid (¬ footW p m V4 w2.heap.size) := fun h9 => (hst4.new _ h9).elim (fun h8 => by have h7 := Wx.lt HX.out h8; rw [HPS.out, HP.out] at h7; omega) (fun h8 => Nat.not_succ_le_self w2.heap.size (by simpa using h8)); have HT : Hid _ := ht; clear hA4 hB4 hx4 hst4 ht))
  (go_wp2_with fail); refine hK.out _ _ (by first | exact hS2 | exact hS4 | exact HS2A.out _ | exact HS4A.out _ | exact HS4S.out _ _ _) ?_; clear hK K; clear hHeld; intro hHeld; (try simp only [pS]); refine tz 11 9 hHeld ?_; simp only [pS]; refine tz 12 21 hHeld ?_; simp only [pS]; refine tz 13 22 hHeld ?_; simp only [pS]; refine run_at (i := 15) rfl (by kernel_rfl) (by rfl) (fun K hK => ?_); simp only [gE]; go_simp; (go_wp2_with fail); refine hK.out _ _ (by first | exact hS2 | exact hS4 | exact HS2A.out _ | exact HS4A.out _ | exact HS4S.out _ _ _) ?_; clear hK K; clear hHeld; intro hHeld; (try simp only [pS]); refine tz 16 5 hHeld ?_; simp only [pS]; refine wpAnyH_done (by kernel_rfl) ?_ _; refine NoPanic.normal ?_
 · obtain ⟨T, hT⟩ : ∃ T, T = w2.heap.size := ⟨_, rfl⟩; obtain ⟨w5, hw5⟩ : ∃ w5, w5 = ((w4.setCell ⟨w2.heap.size, 0, none⟩ (.int .i64 t.id)).setCell ⟨w2.heap.size, 1, none⟩ (.int .u64 (t.at_ : Int))).setCell ⟨w2.heap.size, 2, none⟩ (.int .u64 (t.ord : Int)) := ⟨_, rfl⟩
   have hr5 : w5.cell? ⟨T, 0, none⟩ = some (.int .i64 t.id) := by
    rw [hw5, hT]; exact (cell3 ((heap_setCell_same _ _ _ _ _ _ (heap_setCell_same _ _ _ _ _ _ (heap_setCell_same _ _ _ _ _ _ HB4.out))).trans rfl)).1
   obtain ⟨b0, b1, b2⟩ := HS4S.out (.int .i64 t.id) (.int .u64 (t.at_ : Int)) (.int .u64 (t.ord : Int))
   have hx5 : Wx w5.drew p m N S (upd2 F k s (remL (F k s) i)) KS X V4 := by
    obtain ⟨fl, h1, h2, hz⟩ := HX4.out; refine ⟨fl, h1.kept (fun b hf => ?_), h2, hz⟩; have hne : b ≠ w2.heap.size := fun e => HN4.out (e ▸ hf)
    rw [hw5]; exact (heap_setCell_other _ _ _ _ hne).trans ((heap_setCell_other _ _ _ _ hne).trans (heap_setCell_other _ _ _ _ hne))
   have hst5 : Stp w w5.drew p m V V4 := by
    refine HS4.out.belowEnd (B := w2.heap.size) ?_ HB1.out.size; rw [hw5]; exact ((((Below.refl w2.heap.size w4).setCell (p := ⟨w2.heap.size, 0, none⟩) (Nat.le_refl w2.heap.size) _).setCell (p := ⟨w2.heap.size, 1, none⟩) (Nat.le_refl w2.heap.size) _).setCell (p := ⟨w2.heap.size, 2, none⟩) (Nat.le_refl w2.heap.size) _).drew
   rw [← hw5] at b0 b1 b2; rw [← hw5]; rw [← hT]; have hr5e := hw5; clear hw5 hT r0 r1 r2 c0 c1 c2 f0 f1 f2; clear hr5e; have hL : Hid (leaveX F X k s i = if i < (F k s).length - 1 then updI X ((F k s).getD ((F k s).length - 1) ⟨0, 0, 0⟩).id ⟨k, s, i⟩ else X) := rfl
   by_cases hlt : i < (F k s).length - 1
   · have htK : t.id ∈ KS := by rw [HT.out hlt]; exact HM.out hlt
     have hL2 : leaveX F X k s i = updI X t.id ⟨k, s, i⟩ := by rw [hL.out, if_pos hlt, HT.out hlt]
     obtain ⟨fl, h1, h2, hz⟩ := hx5; have hid : inI t.id := h1.map.rg _ htK; obtain ⟨w9, hr9, hm9, hg9⟩ := h1.map.put hid ⟨k, s, i⟩ HKL.out; have hcM : w5.cell? ⟨p, 522, none⟩ = some (.map (some m)) := h1.cM; have e9 : insK KS t.id = KS := by unfold insK; rw [if_pos htK]
     rw [e9] at hm9; have H1 : Hid _ := h1; have H2 : Hid _ := And.intro h2 hz; have HM9 : Hid _ := hm9; have HG9 : Hid _ := hg9; have HL2 : Hid _ := hL2; have HS5 : Hid _ := hst5; clear h1 h2 hz hm9 hg9 hL2 hst5 htK e9 hL; go_wp2; go_region
     go_end0; rw [HL2.out]; exact ⟨rfl, V4, ⟨fl, H1.out.mapped HG9.out HM9.out, H2.out.1, H2.out.2⟩, HS5.out.trans (Stp.mapped HG9.out)⟩
   · have hL2 : leaveX F X k s i = X := by rw [hL.out, if_neg hlt]
     have HL2 : Hid _ := hL2; have HX5 : Hid _ := hx5; have HS5 : Hid _ := hst5; clear hL2 hx5 hst5 hL; go_wp2; go_end0; rw [HL2.out]; refine ⟨rfl, V4, ?_, ?_⟩
     · obtain ⟨fl, h1, h2⟩ := HX5.out; exact ⟨fl, h1.kept (fun b _ => rfl), h2⟩
     · exact ⟨⟨HS5.out.chg.os, HS5.out.chg.tape, HS5.out.chg.output, HS5.out.chg.size, HS5.out.chg.block⟩, HS5.out.new⟩
 · obtain ⟨T, hT⟩ : ∃ T, T = w4.heap.size := ⟨_, rfl⟩; obtain ⟨w5, hw5⟩ : ∃ w5, w5 = w4.alloc (Obj.cells #[.int .i64 t.id, .int .u64 (t.at_ : Int), .int .u64 (t.ord : Int)] tTm) := ⟨_, rfl⟩; have hr5 : w5.cell? ⟨T, 0, none⟩ = some (.int .i64 t.id) := by rw [hw5, hT]; exact (cell3 (heap_alloc_new w4 _)).1
   obtain ⟨b0, b1, b2⟩ := HS4A.out (Obj.cells #[.int .i64 t.id, .int .u64 (t.at_ : Int), .int .u64 (t.ord : Int)] tTm); have hx5 : Wx w5.drew p m N S (upd2 F k s (remL (F k s) i)) KS X V4 := by rw [hw5]; exact Wx.below HX4.out (al (bR _ _) _).drew
   have hst5 : Stp w w5.drew p m V V4 := by rw [hw5]; exact HS4.out.trans (Stp.below (al (bR _ _) _).drew _ _ _)
   rw [← hw5] at b0 b1 b2; rw [← hw5]; rw [← hT]; have hr5e := hw5; clear hw5 hT r0 r1 r2; clear hr5e; have hL : Hid (leaveX F X k s i = if i < (F k s).length - 1 then updI X ((F k s).getD ((F k s).length - 1) ⟨0, 0, 0⟩).id ⟨k, s, i⟩ else X) := rfl
   by_cases hlt : i < (F k s).length - 1
   · have htK : t.id ∈ KS := by rw [HT.out hlt]; exact HM.out hlt
     have hL2 : leaveX F X k s i = updI X t.id ⟨k, s, i⟩ := by rw [hL.out, if_pos hlt, HT.out hlt]
     obtain ⟨fl, h1, h2, hz⟩ := hx5; have hid : inI t.id := h1.map.rg _ htK; obtain ⟨w9, hr9, hm9, hg9⟩ := h1.map.put hid ⟨k, s, i⟩ HKL.out; have hcM : w5.cell? ⟨p, 522, none⟩ = some (.map (some m)) := h1.cM; have e9 : insK KS t.id = KS := by unfold insK; rw [if_pos htK]
     rw [e9] at hm9; have H1 : Hid _ := h1; have H2 : Hid _ := And.intro h2 hz; have HM9 : Hid _ := hm9; have HG9 : Hid _ := hg9; have HL2 : Hid _ := hL2; have HS5 : Hid _ := hst5; clear h1 h2 hz hm9 hg9 hL2 hst5 htK e9 hL; go_wp2; go_region
     go_end0; rw [HL2.out]; exact ⟨rfl, V4, ⟨fl, H1.out.mapped HG9.out HM9.out, H2.out.1, H2.out.2⟩, HS5.out.trans (Stp.mapped HG9.out)⟩
   · have hL2 : leaveX F X k s i = X := by rw [hL.out, if_neg hlt]
     have HL2 : Hid _ := hL2; have HX5 : Hid _ := hx5; have HS5 : Hid _ := hst5; clear hL2 hx5 hst5 hL; go_wp2; go_end0; rw [HL2.out]; refine ⟨rfl, V4, ?_, ?_⟩
     · obtain ⟨fl, h1, h2⟩ := HX5.out; exact ⟨fl, h1.kept (fun b _ => rfl), h2⟩
     · exact ⟨⟨HS5.out.chg.os, HS5.out.chg.tape, HS5.out.chg.output, HS5.out.chg.size, HS5.out.chg.block⟩, HS5.out.new⟩
end
end Go.Proofs.YtpakkpahcpgnnaaGreatDoor.Wh
namespace Go.Proofs.YtpakkpahcpgnnaaGreatDoor.Wh
open Go.RowKit Go.Maps
theorem nodup_inj {xs : List Tm} (h : xs.Nodup) {a b : Nat} {t : Tm} (ha : xs[a]? = some t) (hb : xs[b]? = some t) : a = b := by
 obtain ⟨h1, h2⟩ := List.getElem?_eq_some_iff.1 ha; obtain ⟨h3, h4⟩ := List.getElem?_eq_some_iff.1 hb; have h5 := List.pairwise_iff_getElem.1 h; rcases Nat.lt_trichotomy a b with h6 | h6 | h6
 · exact absurd (h2.trans h4.symm) (h5 a b h1 h3 h6)
 · exact h6
 · exact absurd (h4.trans h2.symm) (h5 b a h3 h1 h6)
theorem inj_nodup {xs : List Tm} (h : ∀ (a b : Nat) (t : Tm), xs[a]? = some t → xs[b]? = some t → a = b) : xs.Nodup := by
 rw [List.Nodup, List.pairwise_iff_getElem]; intro i j hi hj hij e; have := h i j xs[i] (List.getElem?_eq_getElem hi) (by rw [List.getElem?_eq_getElem hj, e]); omega
theorem sub_len {α : Type} {xs : List α} (h : xs.Nodup) : ∀ {L : List α}, (∀ x, x ∈ xs → x ∈ L) → xs.length ≤ L.length := by
 induction xs with
 | nil => intro L _; exact Nat.zero_le _
 | cons x xs ih =>
  intro L hs; obtain ⟨h1, h2⟩ := List.nodup_cons.1 h; obtain ⟨l1, l2, rfl⟩ := List.append_of_mem (hs x (by simp))
  have h3 := ih h2 (L := l1 ++ l2) (fun y hy => by
    have h4 := hs y (by simp [hy]); simp only [List.mem_append, List.mem_cons] at h4 ⊢; rcases h4 with h4 | h4 | h4
    · exact .inl h4
    · exact absurd (h4 ▸ hy) h1
    · exact .inr h4)
  simp only [List.length_cons, List.length_append] at *; omega
theorem rem_get (xs : List Tm) (i j : Nat) (hi : i < xs.length) : (remL xs i)[j]? = if j < xs.length - 1 then (if j = i then xs[xs.length - 1]? else xs[j]?) else none := by
 unfold remL; have hD : xs.getD (xs.length - 1) ⟨0, 0, 0⟩ = xs[xs.length - 1]'(by omega) := by rw [List.getD_eq_getElem?_getD, List.getElem?_eq_getElem (by omega)]; rfl
 rw [hD]
 by_cases h1 : j < xs.length - 1
 · rw [if_pos h1, List.getElem?_take_of_lt h1]
   by_cases h2 : j = i
   · subst h2; rw [if_pos rfl, List.getElem?_set_self hi, List.getElem?_eq_getElem (by omega)]
   · rw [if_neg h2, List.getElem?_set_ne (fun e => h2 e.symm)]
 · rw [if_neg h1, List.getElem?_take_eq_none (by omega)]
theorem rem_mem {xs : List Tm} (hn : xs.Nodup) {i : Nat} (hi : i < xs.length) (t : Tm) : t ∈ remL xs i ↔ t ∈ xs ∧ xs[i]? ≠ some t := by
 rw [List.mem_iff_getElem?, List.mem_iff_getElem?]; constructor
 · rintro ⟨j, hj⟩; rw [rem_get xs i j hi] at hj
   by_cases h1 : j < xs.length - 1
   · rw [if_pos h1] at hj
     by_cases h2 : j = i
     · rw [if_pos h2] at hj; exact ⟨⟨_, hj⟩, fun e => by have := nodup_inj hn hj e; omega⟩
     · rw [if_neg h2] at hj; exact ⟨⟨_, hj⟩, fun e => h2 (nodup_inj hn hj e)⟩
   · rw [if_neg h1] at hj; cases hj
 · rintro ⟨⟨j, hj⟩, hne⟩; have hjl := (List.getElem?_eq_some_iff.1 hj).1; have hji : j ≠ i := fun e => hne (e ▸ hj)
   by_cases h1 : j = xs.length - 1
   · refine ⟨i, ?_⟩; rw [rem_get xs i i hi, if_pos (by omega), if_pos rfl, ← h1]; exact hj
   · refine ⟨j, ?_⟩; rw [rem_get xs i j hi, if_pos (by omega), if_neg hji]; exact hj
theorem rem_nodup {xs : List Tm} (hn : xs.Nodup) {i : Nat} (hi : i < xs.length) : (remL xs i).Nodup := by
 apply inj_nodup; intro a b t ha hb; rw [rem_get xs i a hi] at ha; rw [rem_get xs i b hi] at hb
 by_cases h1 : a < xs.length - 1
 · by_cases h2 : b < xs.length - 1
   · rw [if_pos h1] at ha; rw [if_pos h2] at hb
     by_cases h3 : a = i
     · by_cases h4 : b = i
       · omega
       · rw [if_pos h3] at ha; rw [if_neg h4] at hb; have := nodup_inj hn ha hb; omega
     · by_cases h4 : b = i
       · rw [if_neg h3] at ha; rw [if_pos h4] at hb; have := nodup_inj hn ha hb; omega
       · rw [if_neg h3] at ha; rw [if_neg h4] at hb; exact nodup_inj hn ha hb
   · rw [if_neg h2] at hb; cases hb
 · rw [if_neg h1] at ha; cases ha
structure RepP (N : Nat) (P : Tm → Prop) (F : Nat → Nat → List Tm) (X : Int → Pl) : Prop where
 mem : ∀ k s t, k < 8 → s < 64 → (t ∈ F k s ↔ P t ∧ lev t.at_ N = k ∧ slt t.at_ k = s)
 fnd : ∀ k s, k < 8 → s < 64 → (F k s).Nodup
 pl : ∀ t, P t → lev t.at_ N < 8 → ∃ i, X t.id = ⟨lev t.at_ N, slt t.at_ (lev t.at_ N), i⟩ ∧ (F (lev t.at_ N) (slt t.at_ (lev t.at_ N)))[i]? = some t
 p8 : ∀ t, P t → lev t.at_ N = 8 → (X t.id).k = 8
 uni : ∀ t u, P t → P u → t.id = u.id → t = u
theorem RepP.put {N : Nat} {P : Tm → Prop} {F : Nat → Nat → List Tm} {X : Int → Pl} (h : RepP N P F X) (t : Tm) (ht : ∀ u, P u → u.id ≠ t.id) (hl : lev t.at_ N ≤ 8) : RepP N (fun u => P u ∨ u = t) (putF F N t) (updI X t.id (putPl F N t)) := by
 have hs := slt_lt t.at_ (lev t.at_ N); have hnt : ∀ k s, k < 8 → s < 64 → t ∉ F k s := fun k s hk hs h9 => ht t ((h.mem k s t hk hs).1 h9).1 rfl
 have hput : ∀ k s, k < 8 → s < 64 → ∀ u, u ∈ putF F N t k s ↔ u ∈ F k s ∨ (u = t ∧ lev t.at_ N = k ∧ slt t.at_ k = s) := by
  intro k s hk hs' u; unfold putF
  by_cases h8 : lev t.at_ N < 8
  · rw [if_pos h8]
    by_cases e : k = lev t.at_ N ∧ s = slt t.at_ (lev t.at_ N)
    · obtain ⟨rfl, rfl⟩ := e; rw [upd2_same]; simp
    · rw [upd2_other _ e]; refine ⟨.inl, fun h9 => h9.elim id (fun ⟨_, h1, h2⟩ => absurd ⟨h1.symm, by rw [← h2, h1]⟩ e)⟩
  · rw [if_neg h8]; exact ⟨.inl, fun h9 => h9.elim id (fun ⟨_, h1, _⟩ => by omega)⟩
 refine ⟨fun k s u hk hs' => ?_, fun k s hk hs' => ?_, fun u hu h8 => ?_, fun u hu h8 => ?_, fun u v hu hv e => ?_⟩
 · rw [hput k s hk hs', h.mem k s u hk hs']; constructor
   · rintro (⟨h1, h2, h3⟩ | ⟨rfl, h2, h3⟩)
     · exact ⟨.inl h1, h2, h3⟩
     · exact ⟨.inr rfl, h2, h3⟩
   · rintro ⟨h1 | rfl, h2, h3⟩
     · exact .inl ⟨h1, h2, h3⟩
     · exact .inr ⟨rfl, h2, h3⟩
 · unfold putF
   by_cases h8 : lev t.at_ N < 8
   · rw [if_pos h8]
     by_cases e : k = lev t.at_ N ∧ s = slt t.at_ (lev t.at_ N)
     · obtain ⟨rfl, rfl⟩ := e; rw [upd2_same]; refine List.nodup_append.2 ⟨h.fnd _ _ h8 hs, by simp, fun a ha b hb e => ?_⟩; simp at hb; subst hb e; exact hnt _ _ h8 hs ha
     · rw [upd2_other _ e]; exact h.fnd k s hk hs'
   · rw [if_neg h8]; exact h.fnd k s hk hs'
 · rcases hu with hu | rfl
   · obtain ⟨i, h1, h2⟩ := h.pl u hu h8; refine ⟨i, ?_, ?_⟩
     · rw [updI_other _ (ht u hu)]; exact h1
     · unfold putF
       by_cases h9 : lev t.at_ N < 8
       · rw [if_pos h9]
         by_cases e : lev u.at_ N = lev t.at_ N ∧ slt u.at_ (lev u.at_ N) = slt t.at_ (lev t.at_ N)
         · rw [e.2, e.1, upd2_same]; rw [e.2, e.1] at h2; rw [List.getElem?_append_left (List.getElem?_eq_some_iff.1 h2).1]; exact h2
         · rw [upd2_other _ e]; exact h2
       · rw [if_neg h9]; exact h2
   · refine ⟨(F (lev u.at_ N) (slt u.at_ (lev u.at_ N))).length, ?_, ?_⟩
     · rw [updI_same]; unfold putPl; rw [if_pos h8]
     · unfold putF; rw [if_pos h8, upd2_same]; simp
 · rcases hu with hu | rfl
   · rw [updI_other _ (ht u hu)]; exact h.p8 u hu h8
   · rw [updI_same]; exact h8
 · rcases hu with hu | rfl
   · rcases hv with hv | rfl
     · exact h.uni u v hu hv e
     · exact absurd e (ht u hu)
   · rcases hv with hv | rfl
     · exact absurd e.symm (ht v hv)
     · rfl
theorem RepP.leave {N : Nat} {P : Tm → Prop} {F : Nat → Nat → List Tm} {X : Int → Pl} (h : RepP N P F X) (t : Tm) (ht : P t) (h8 : lev t.at_ N < 8) {k s i : Nat} (hx : X t.id = ⟨k, s, i⟩) :
 k < 8 ∧ s < 64 ∧ i < (F k s).length ∧ (i < (F k s).length - 1 → P ((F k s).getD ((F k s).length - 1) ⟨0, 0, 0⟩)) ∧ RepP N (fun u => P u ∧ u.id ≠ t.id) (upd2 F k s (remL (F k s) i)) (leaveX F X k s i) := by
 obtain ⟨i', h1, h2⟩ := h.pl t ht h8; rw [hx] at h1; obtain ⟨rfl, rfl, rfl⟩ := Pl.mk.inj h1; have hs := slt_lt t.at_ (lev t.at_ N); have hi := (List.getElem?_eq_some_iff.1 h2).1; generalize hk : lev t.at_ N = k at *; generalize hsl : slt t.at_ k = s at *; have hnd := h.fnd k s h8 hs; have hD : (F k s).getD ((F k s).length - 1) ⟨0, 0, 0⟩ = (F k s)[(F k s).length - 1]'(by omega) := by rw [List.getD_eq_getElem?_getD, List.getElem?_eq_getElem (by omega)]; rfl
 have hlast : (F k s)[(F k s).length - 1]? = some ((F k s).getD ((F k s).length - 1) ⟨0, 0, 0⟩) := by rw [hD, List.getElem?_eq_getElem]
 generalize hM : (F k s).getD ((F k s).length - 1) ⟨0, 0, 0⟩ = M at *; have hMin : M ∈ F k s := List.mem_iff_getElem?.2 ⟨_, hlast⟩; have hMP := (h.mem k s M h8 hs).1 hMin
 have hmem : ∀ u, u ∈ remL (F k s) i ↔ u ∈ F k s ∧ u.id ≠ t.id := fun u => by
  rw [rem_mem hnd hi]; constructor
  · rintro ⟨h3, h4⟩; refine ⟨h3, fun e => h4 ?_⟩; rw [h.uni u t ((h.mem k s u h8 hs).1 h3).1 ht e]; exact h2
  · rintro ⟨h3, h4⟩; refine ⟨h3, fun e => h4 ?_⟩; rw [h2] at e; rw [Option.some.inj e]
 refine ⟨h8, hs, hi, fun _ => hMP.1, ?_⟩; refine ⟨fun k' s' u hk' hs' => ?_, fun k' s' hk' hs' => ?_, fun u hu h9 => ?_, fun u hu h9 => ?_, fun u v hu hv e => h.uni u v hu.1 hv.1 e⟩
 · by_cases e : k' = k ∧ s' = s
   · obtain ⟨rfl, rfl⟩ := e; rw [upd2_same, hmem, h.mem k' s' u hk' hs']; constructor
     · rintro ⟨⟨a, b, c⟩, d⟩; exact ⟨⟨a, d⟩, b, c⟩
     · rintro ⟨⟨a, d⟩, b, c⟩; exact ⟨⟨a, b, c⟩, d⟩
   · rw [upd2_other _ e, h.mem k' s' u hk' hs']; constructor
     · rintro ⟨a, b, c⟩; refine ⟨⟨a, fun e9 => e ?_⟩, b, c⟩; have := h.uni u t a ht e9; subst this; exact ⟨b.symm.trans hk, by rw [← c, ← b, hk]; exact hsl⟩
     · rintro ⟨⟨a, -⟩, b, c⟩; exact ⟨a, b, c⟩
 · by_cases e : k' = k ∧ s' = s
   · obtain ⟨rfl, rfl⟩ := e; rw [upd2_same]; exact rem_nodup hnd hi
   · rw [upd2_other _ e]; exact h.fnd k' s' hk' hs'
 · obtain ⟨j, h3, h4⟩ := h.pl u hu.1 h9; have hut : u ≠ t := fun e => hu.2 (by rw [e])
   by_cases e : lev u.at_ N = k ∧ slt u.at_ (lev u.at_ N) = s
   · rw [e.2, e.1] at h3 h4; have hjl := (List.getElem?_eq_some_iff.1 h4).1
     have hji : j ≠ i := fun e9 => by
      subst e9; rw [h2] at h4; exact hut (Option.some.inj h4).symm
     by_cases h5 : j = (F k s).length - 1
     · subst h5; have huM : u = M := by rw [hlast] at h4; exact (Option.some.inj h4).symm
       have hlt : i < (F k s).length - 1 := by omega
       refine ⟨i, ?_, ?_⟩
       · unfold leaveX; rw [if_pos hlt, hM, ← huM, updI_same, e.2, e.1]
       · rw [e.2, e.1, upd2_same, rem_get _ _ _ hi, if_pos hlt, if_pos rfl]; exact h4
     · refine ⟨j, ?_, ?_⟩
       · unfold leaveX
         by_cases hlt : i < (F k s).length - 1
         · rw [if_pos hlt, hM, updI_other, h3, e.2, e.1]; intro e9; have := h.uni u M hu.1 hMP.1 e9; subst this; exact h5 (nodup_inj hnd h4 hlast)
         · rw [if_neg hlt, h3, e.2, e.1]
       · rw [e.2, e.1, upd2_same, rem_get _ _ _ hi, if_pos (by omega), if_neg hji]; exact h4
   · refine ⟨j, ?_, ?_⟩
     · unfold leaveX
       by_cases hlt : i < (F k s).length - 1
       · rw [if_pos hlt, hM, updI_other, h3]; intro e9; have := h.uni u M hu.1 hMP.1 e9; subst this; exact e ⟨hMP.2.1, by rw [hMP.2.1]; exact hMP.2.2⟩
       · rw [if_neg hlt, h3]
     · rw [upd2_other _ e]; exact h4
 · unfold leaveX
   by_cases hlt : i < (F k s).length - 1
   · rw [if_pos hlt, hM, updI_other]
     · exact h.p8 u hu.1 h9
     · intro e9; have := h.uni u M hu.1 hMP.1 e9; subst this; omega
   · rw [if_neg hlt]; exact h.p8 u hu.1 h9
theorem RepP.leave8 {N : Nat} {P : Tm → Prop} {F : Nat → Nat → List Tm} {X : Int → Pl} (h : RepP N P F X) (t : Tm) (ht : P t) (h8 : lev t.at_ N = 8) : RepP N (fun u => P u ∧ u.id ≠ t.id) F X := by
 refine ⟨fun k s u hk hs => ?_, h.fnd, fun u hu => h.pl u hu.1, fun u hu => h.p8 u hu.1, fun u v hu hv => h.uni u v hu.1 hv.1⟩; rw [h.mem k s u hk hs]; constructor
 · rintro ⟨a, b, c⟩; refine ⟨⟨a, fun e => ?_⟩, b, c⟩; have := h.uni u t a ht e; subst this; omega
 · rintro ⟨⟨a, -⟩, b, c⟩; exact ⟨a, b, c⟩
theorem RepP.congr {N : Nat} {P Q : Tm → Prop} {F : Nat → Nat → List Tm} {X : Int → Pl} (h : RepP N P F X) (e : ∀ t, P t ↔ Q t) : RepP N Q F X := by
 have : P = Q := funext fun t => propext (e t)
 rw [← this]; exact h
end Go.Proofs.YtpakkpahcpgnnaaGreatDoor.Wh
namespace Go.Proofs.YtpakkpahcpgnnaaGreatDoor.Wh
open Go.RowKit Go.Maps
theorem MapW.look {w : World} {m : Nat} {K : List Int} {X : Int → Pl} (h : MapW w m K X) {z : Int} (hz : inI z) :
 (Instr.lookup tMp (.map (some m)) (.int .i64 z) true).run Tryz.prog w = .ok (.tuple #[plv (if z ∈ K then X z else ⟨0, 0, 0⟩), .bool (decide (z ∈ K))]) w := by
 obtain ⟨D, h1, h2, h3, h4⟩ := h.own; obtain ⟨v, ps, hr, hv⟩ := h1.look_ok keyI Tryz.underlying131 (zeroP w) (zd := .held (plv ⟨0, 0, 0⟩)) (zp := []) rfl (kI_of hz)
 have hhas : Maps.has D (kI z) = decide (z ∈ K) := by
  have := h3 z hz
  by_cases h9 : z ∈ K
  · simp [h9, this.2 h9]
  · cases h8 : Maps.has D (kI z)
    · simp [h9]
    · exact absurd (this.1 h8) h9
 rw [hr, hhas]; simp only [selfR, Option.some.injEq, Prod.mk.injEq] at hv; have e1 := hv.1
 by_cases h9 : z ∈ K
 · rw [h4 z h9] at e1; rw [if_pos h9, DataW.held.inj e1]
 · have hf : Maps.has D (kI z) = false := by rw [hhas]; simp [h9]
   rw [atKey_of_not_has hf] at e1; rw [if_neg h9, DataW.held.inj e1]
theorem wp_delW {w : World} {m : Nat} {K : List Int} {X : Int → Pl} {ops : Array Oper} {rest : List Oper} {o : Oper} {a : Act} {Q : Exit → Act → World → Prop} (hgd : o.guard = none) (mo x : Operand) (ho : o.op = .call { callee := .builtin .delete, args := #[mo, x], argTypes := #[tMp, 3] }) (z : Int)
 (hm : a.eval mo = .map (some m)) (hx : a.eval x = .int .i64 z) (h : MapW w m K X) (hz : inI z) (hK : ∀ w', MapW w' m (K.filter (fun y => decide (y ≠ z))) X → w.grownBy w' (some m) → wpList Tryz.prog ops Q rest (a.put o.dst (.tuple #[])) w') : wpList Tryz.prog ops Q (o :: rest) a w := by
 refine wpList_plain hgd fun K' hK' => ?_
 obtain ⟨w', hr, h1, h2⟩ := h.del hz o.type; unfold Oper.wp; simp [execOp, ho, resolve, invoke, builtin, hm, hx, hr, Result.andThen]; exact hK' _ _ (hK w' h1 h2)
structure Ord (N S : Nat) (L : List Tm) : Prop where
 nN : N ≤ mxN
 nd : (L.map Tm.id).Nodup
 ord : L.Pairwise (fun a b => a.ord < b.ord)
 le : ∀ t, t ∈ L → t.ord ≤ S
 rg : ∀ t, t ∈ L → inI t.id
 ats : ∀ t, t ∈ L → N < t.at_ ∧ (t.at_ ≤ mxN ∨ (N = mxN ∧ t.at_ = mxN + 1))
theorem Ord.lev8 {N S : Nat} {L : List Tm} (h : Ord N S L) {t : Tm} (ht : t ∈ L) : (t.at_ ≤ mxN → lev t.at_ N < 8) ∧ (¬ t.at_ ≤ mxN → lev t.at_ N = 8) := by
 obtain ⟨h1, h2⟩ := h.ats t ht; refine ⟨lev_lt8 h1, fun h3 => ?_⟩; rcases h2 with h2 | ⟨h2, h4⟩
 · exact absurd h2 h3
 · rw [h4, h2]; exact lev_never
theorem Ord.sub {N S : Nat} {L : List Tm} (h : Ord N S L) (q : Tm → Bool) : Ord N S (L.filter q) :=
 ⟨h.nN, h.nd.sublist (List.filter_sublist.map _), h.ord.sublist List.filter_sublist, fun t ht => h.le t (List.mem_filter.1 ht).1, fun t ht => h.rg t (List.mem_filter.1 ht).1, fun t ht => h.ats t (List.mem_filter.1 ht).1⟩
def Wt (w : World) (p m N S : Nat) (L : List Tm) (V : Nat → Nat → Value) : Prop := ∃ F X, Wx w p m N S F (L.map Tm.id) X V ∧ RepP N (fun t => t ∈ L) F X ∧ Ord N S L
theorem filter_ids (L : List Tm) (z : Int) : (L.filter (fun t => decide (t.id ≠ z))).map Tm.id = (L.map Tm.id).filter (fun y => decide (y ≠ z)) := by
 induction L with
 | nil => rfl
 | cons a L ih =>
  by_cases h : a.id = z
  · rw [List.filter_cons_of_neg (by simp [h]), List.map_cons, List.filter_cons_of_neg (by simp [h]), ih]
  · rw [List.filter_cons_of_pos (by simp [h]), List.map_cons, List.map_cons, List.filter_cons_of_pos (by simp [h]), ih]
section
variable {K : List Int} {w w' : World} {p m N S : Nat} {L : List Tm} {F : Nat → Nat → List Tm} {V : Nat → Nat → Value} {fl : Nat → Nat} {X : Int → Pl}
theorem Wt.below (h : Wt w p m N S L V) (hb : Below w.heap.size w w') : Wt w' p m N S L V := by
 obtain ⟨F, X, h1, h2⟩ := h; exact ⟨F, X, h1.below hb, h2⟩
theorem Wt.lt (h : Wt w p m N S L V) {b : Nat} (hb : footW p m V b) : b < w.heap.size := by
 obtain ⟨F, X, h1, h2⟩ := h; exact h1.lt hb
theorem Wt.chg {G : Nat → Prop} (h : Wt w p m N S L V) (hc : Chg G w w') (hG : ∀ b, footW p m V b → ¬ G b) : Wt w' p m N S L V := by
 obtain ⟨F, X, h1, h2⟩ := h; exact ⟨F, X, h1.chg hc hG, h2⟩
theorem Wx.cM (h : Wx w p m N S F K X V) : w.cell? ⟨p, 522, none⟩ = some (.map (some m)) := by
 obtain ⟨fl, h1, -⟩ := h; exact h1.cM
theorem Wx.cN (h : Wx w p m N S F K X V) : w.cell? ⟨p, 0, none⟩ = some (.int .u64 (N : Int)) := by
 obtain ⟨fl, h1, -⟩ := h; exact h1.cN
theorem Wx.cS (h : Wx w p m N S F K X V) : w.cell? ⟨p, 1, none⟩ = some (.int .u64 (S : Int)) := by
 obtain ⟨fl, h1, -⟩ := h; exact h1.cS
set_option maxRecDepth 20000 in
set_option maxHeartbeats 1600000 in
theorem stop_t (h : Wt w p m N S L V) (id : Int) (hid : inI id) (hL : L.length ≤ 4398046511104) :
 Calls Tryz.prog 77 #[.pointer (some ⟨p, 0, none⟩), .int .i64 id] w fun e w' => e = .returned (.bool (decide (id ∈ L.map Tm.id))) ∧ ∃ V', Wt w' p m N S (L.filter (fun t => decide (t.id ≠ id))) V' ∧ Stp w w' p m V V' := by
 obtain ⟨F, X, hx, hr, ho⟩ := h; have hcM := hx.cM
 have hlook : (Instr.lookup tMp (.map (some m)) (.int .i64 id) true).run Tryz.prog w = .ok (.tuple #[plv (if id ∈ L.map Tm.id then X id else ⟨0, 0, 0⟩), .bool (decide (id ∈ L.map Tm.id))]) w := by
  obtain ⟨fl, h1, -⟩ := hx; exact h1.map.look hid
 have hpl := hx.lt (.inl rfl : footW p m V p); have HML : Hid (m < w.heap.size) := hx.lt (.inr (.inl rfl) : footW p m V m); have HX : Hid _ := hx; have HR : Hid _ := hr; have HO : Hid _ := ho; clear hx hr ho
 by_cases hin : id ∈ L.map Tm.id
 · rw [if_pos hin] at hlook; have hdec : decide (id ∈ L.map Tm.id) = true := by simp [hin]
   rw [hdec] at hlook ⊢; obtain ⟨t, htL, hti⟩ := List.mem_map.1 hin; obtain ⟨⟨k, s, i⟩, hXid⟩ : ∃ x, x = X id := ⟨_, rfl⟩; rw [← hXid] at hlook; have hXt : X t.id = ⟨k, s, i⟩ := by rw [hti]; exact hXid.symm
   have hKL : (L.map Tm.id).length ≤ 4398046511104 := by rw [List.length_map]; exact hL
   have hKF : ((L.map Tm.id).filter (fun y => decide (y ≠ id))).length ≤ 4398046511104 := Nat.le_trans (List.length_filter_le _ _) hKL; have hset : ∀ u, (u ∈ L ∧ u.id ≠ t.id) ↔ u ∈ L.filter (fun t => decide (t.id ≠ id)) := fun u => by rw [List.mem_filter, hti]; simp
   have HSET : Hid _ := hset; have HXT : Hid _ := hXt; have HTI : Hid _ := hti; have HTL : Hid _ := htL; have HKF : Hid _ := hKF
   have HLV : Hid (∀ u : World, Wx u p m N S F ((L.map Tm.id).filter (fun y => decide (y ≠ id))) X V → Calls Tryz.prog 111 #[.pointer (some ⟨p, 0, none⟩), .agg #[.int .i64 (k : Int), .int .i64 (s : Int), .int .i64 (i : Int)]] u fun e w' => e = .returned (.tuple #[]) ∧ ∃ V', Wt w' p m N S (L.filter (fun t => decide (t.id ≠ id))) V' ∧ Stp u w' p m V V') := fun u hu => by
    have hl8 := HO.out.lev8 htL
    by_cases hat : t.at_ ≤ mxN
    · obtain ⟨h1, h2, h3, h4, h5⟩ := RepP.leave HR.out t htL (hl8.1 hat) hXt; refine Calls.mono (leave_w hu k s i h1 h2 h3 hKF (fun h9 => ?_)) ?_
      · refine List.mem_filter.2 ⟨List.mem_map.2 ⟨_, h4 h9, rfl⟩, ?_⟩; simp only [decide_eq_true_eq]; intro e9; have h6 := HR.out.uni _ t (h4 h9) htL (by rw [e9, hti]); obtain ⟨i', h7, h8⟩ := HR.out.pl t htL (hl8.1 hat); rw [hXt] at h7; obtain ⟨h7a, h7b, h7c⟩ := Pl.mk.inj h7; rw [← h7b, ← h7a, ← h7c] at h8
        have h10 : (F k s)[(F k s).length - 1]? = some t := by
         rw [← h6, List.getElem?_eq_getElem (by omega), List.getD_eq_getElem?_getD, List.getElem?_eq_getElem (by omega)]
         rfl
        have := nodup_inj (HR.out.fnd k s h1 h2) h8 h10; omega
      · rintro e w' ⟨rfl, V', hx', hst'⟩; refine ⟨rfl, V', ⟨_, _, ?_, h5.congr hset, HO.out.sub _⟩, hst'⟩; rw [filter_ids]; exact hx'
    · have h8 := HR.out.p8 t htL (hl8.2 hat); rw [hXt] at h8; have h8' : k = 8 := h8; subst h8'; refine Calls.mono (leave_8 hu s i) ?_; rintro e w' ⟨rfl, hx', hst'⟩; refine ⟨rfl, V, ⟨F, X, ?_, (RepP.leave8 HR.out t htL (hl8.2 hat)).congr hset, HO.out.sub _⟩, hst'⟩; rw [filter_ids]; exact hx'
   clear hXid hXt hti hKL hKF hset hin htL hdec hL; go_enter Tryz.func77, Tryz.ntmps77
   go_wp2_with (first
     | (go_at_call 68; refine Calls.mono (made_t p (some m) _ hcM) ?_; rintro e w' ⟨rfl, hq⟩; have hq := hq.symm; subst hq)
     | (at_delete; refine wp_delW rfl _ _ rfl id rfl rfl (K := L.map Tm.id) (X := X) (by obtain ⟨fl, h1, -⟩ := Wx.below HX.out (al (bR _ _) _); exact h1.map) hid ?_; intro w3 hm3 hg3; have hA3 := (hg3.block w.heap.size (by simp) (fun e => Nat.lt_irrefl _ (Option.some.inj e ▸ HML.out))).trans (heap_alloc_new w _); obtain ⟨b0, b1, b2⟩ := cell3 hA3; have HX3 : Hid (Wx w3 p m N S F ((L.map Tm.id).filter (fun y => decide (y ≠ id))) X V) := (by obtain ⟨fl, h1, h2⟩ := Wx.below HX.out (al (bR _ _) _); exact ⟨fl, h1.mapped hg3 hm3, h2⟩); have HS3 : Hid (Stp w w3 p m V V) := (Stp.below (al (bR _ _) _) p m V).trans (Stp.mapped hg3); clear hm3 hg3 hA3)
     | (go_at_call 111; refine Calls.mono (HLV.out w3 HX3.out) ?_; rintro e w4 ⟨rfl, V4, hw4, hst4⟩))
   go_ret; exact ⟨rfl, V4, hw4, HS3.out.trans hst4⟩
 · rw [if_neg hin] at hlook; have hdec : decide (id ∈ L.map Tm.id) = false := by simp [hin]
   rw [hdec] at hlook ⊢
   have hfl : L.filter (fun t => decide (t.id ≠ id)) = L := by
    rw [List.filter_eq_self]; intro t ht; simp only [decide_eq_true_eq]; exact fun e => hin (List.mem_map.2 ⟨t, ht, e⟩)
   rw [hfl]; clear hfl hin hdec; go_enter Tryz.func77, Tryz.ntmps77
   go_wp2_with (go_at_call 68; refine Calls.mono (made_t p (some m) _ hcM) ?_; rintro e w' ⟨rfl, hq⟩; have hq := hq.symm; subst hq)
   go_ret; exact ⟨rfl, V, ⟨F, X, Wx.below HX.out (al (bR _ _) _), HR.out, HO.out⟩, Stp.below (al (bR _ _) _) _ _ _⟩
end
end Go.Proofs.YtpakkpahcpgnnaaGreatDoor.Wh
namespace Go.Proofs.YtpakkpahcpgnnaaGreatDoor.Wh
open Go.RowKit Go.Maps
def isNil (x : Option Value) : Bool := match x with
 | some (.slice none 0 0) => true
 | _ => false
def isZ (x : Option Value) : Bool := match x with
 | some (.int .u64 z) => z == 0
 | _ => false
theorem isNil_eq {x : Option Value} (h : isNil x = true) : x = some (.slice none 0 0) := by
 unfold isNil at h; split at h
 · rfl
 · cases h
theorem isZ_eq {x : Option Value} (h : isZ x = true) : x = some (.int .u64 0) := by
 unfold isZ at h; split at h
 · rename_i z
   have : z = 0 := by simpa using h
   rw [this]
 · cases h
set_option maxRecDepth 100000 in
theorem zero_nil : ((List.range 8).all fun k => (List.range 64).all fun s => isNil Tryz.zeroCells138[2 + 65 * k + s]?) = true := by kernel_rfl
set_option maxRecDepth 100000 in
theorem zero_fl : ((List.range 8).all fun k => isZ Tryz.zeroCells138[2 + 65 * k + 64]?) = true := by kernel_rfl
set_option maxRecDepth 100000 in
theorem zero_sets : isZ Tryz.zeroCells138[1]? = true := by kernel_rfl
set_option maxRecDepth 100000 in
theorem zero_size : Tryz.zeroCells138.size = 523 := by kernel_rfl
theorem new_cells (N m : Nat) : Cells ((Tryz.zeroCells138.setIfInBounds 0 (.int .u64 (N : Int))).setIfInBounds 522 (.map (some m))) N 0 m (fun _ _ => .slice none 0 0) (fun _ => 0) := by
 have hz := zero_size; have h1 : 0 < Tryz.zeroCells138.size := by rw [hz]; decide
 have h2 : 522 < (Tryz.zeroCells138.setIfInBounds 0 (.int .u64 (N : Int))).size := by rw [Array.size_setIfInBounds, hz]; decide
 refine ⟨by rw [Array.size_setIfInBounds, Array.size_setIfInBounds, hz], ?_, ?_, ?_, fun k s hk hs => ?_, fun k hk => ?_⟩
 · rw [set_get _ h2, if_neg (by decide), set_get _ h1, if_pos rfl]
 · rw [set_get _ h2, if_neg (by decide), set_get _ h1, if_neg (by decide)]; exact isZ_eq zero_sets
 · rw [set_get _ h2, if_pos rfl]
 · rw [set_get _ h2, if_neg (by omega), set_get _ h1, if_neg (by omega)]; have h3 := List.all_eq_true.1 zero_nil k (List.mem_range.2 hk); exact isNil_eq (List.all_eq_true.1 h3 s (List.mem_range.2 hs))
 · rw [set_get _ h2, if_neg (by omega), set_get _ h1, if_neg (by omega)]; exact isZ_eq (List.all_eq_true.1 zero_fl k (List.mem_range.2 hk))
set_option maxRecDepth 20000 in
set_option maxHeartbeats 1600000 in
theorem new_t (x : Nat) (w : World) (hw : 0 < w.heap.size) :
 Calls Tryz.prog 32 #[.int .u64 (x : Int)] w fun e w' => ∃ P M V, e = .returned (.tuple #[.pointer (some ⟨P, 0, none⟩), .int .i64 0]) ∧ Wt w' P M (min x mxN) 0 [] V ∧ Below w.heap.size w w' ∧ ∀ b, footW P M V b → w.heap.size ≤ b := by
 have hmm := @run_makeMap Tryz.prog; go_enter Tryz.func32, Tryz.ntmps32
 go_wp2_with (go_at_call 67; refine Calls.mono (time_t x _) ?_; rintro e w' ⟨rfl, hq⟩; have hq := hq.symm; subst hq)
 go_ret2
 have hfoot : ∀ b, footW (w.heap.size + 1) w.heap.size (fun _ _ => .slice none 0 0) b → w.heap.size ≤ b := by
  rintro b (rfl | rfl | ⟨k, s, -, -, e⟩)
  · omega
  · exact Nat.le_refl _
  · cases e
 have hb : Below w.heap.size w ((w.alloc (Obj.map #[] 0)).alloc (Obj.cells ((Tryz.zeroCells138.setIfInBounds 0 (Value.int IntKind.u64 ((min x mxN : Nat) : Int))).setIfInBounds 522 (Value.map (some w.heap.size))) tWh)) := al (al (bR _ _) _) _; refine ⟨w.heap.size + 1, w.heap.size, fun _ _ => .slice none 0 0, rfl, ⟨fun _ _ => [], fun _ => ⟨0, 0, 0⟩, ⟨fun _ => 0, ?_, ?_, fun h9 => by have := hfoot 0 h9; omega⟩, ?_, ?_⟩, hb, hfoot⟩
 · refine ⟨⟨_, ?_, new_cells (min x mxN) w.heap.size⟩, fun k s _ _ => World.ownsRow_nil _ _ _ _, (by rintro k s k' s' b - - - - e; cases e), ?_, fun k _ => by decide⟩
   · have := heap_alloc_new (w.alloc (Obj.map #[] 0)) (Obj.cells ((Tryz.zeroCells138.setIfInBounds 0 (Value.int IntKind.u64 ((min x mxN : Nat) : Int))).setIfInBounds 522 (Value.map (some w.heap.size))) tWh); rw [World.size_alloc] at this; exact this
   · refine ⟨⟨.map [], (World.ownsMap_made w Tryz.prog 3 selfR).alloc _, rfl, fun z _ => ?_, fun z hz => by cases hz⟩, List.nodup_nil, fun z hz => by cases hz⟩; simp [Maps.has]
 · intro k s _ _; simp
 · exact ⟨fun k s t _ _ => by simp, fun k s _ _ => List.nodup_nil, fun t ht => (by cases ht), fun t ht => (by cases ht), fun t u ht => (by cases ht)⟩
 · exact ⟨Nat.min_le_right _ _, List.nodup_nil, List.Pairwise.nil, fun t ht => (by cases ht), fun t ht => (by cases ht), fun t ht => (by cases ht)⟩
end Go.Proofs.YtpakkpahcpgnnaaGreatDoor.Wh
namespace Go.Proofs.YtpakkpahcpgnnaaGreatDoor.Wh
open Go.RowKit Go.Maps
section
variable {w w' : World} {p m N S : Nat} {L : List Tm} {V : Nat → Nat → Value}
theorem Wt.fewF {F : Nat → Nat → List Tm} {X : Int → Pl} (hr : RepP N (fun t => t ∈ L) F X) (k s : Nat) (hk : k < 8) (hs : s < 64) : (F k s).length ≤ L.length := sub_len (hr.fnd k s hk hs) (fun t ht => ((hr.mem k s t hk hs).1 ht).1)
set_option maxRecDepth 20000 in
set_option maxHeartbeats 1600000 in
theorem now_t (h : Wt w p m N S L V) : Calls Tryz.prog 33 #[.pointer (some ⟨p, 0, none⟩)] w fun e w' => e = .returned (.int .u64 (N : Int)) ∧ w' = w := by
 obtain ⟨F, X, hx, -, -⟩ := h; have hcM := hx.cM; have hcN := hx.cN; go_enter Tryz.func33, Tryz.ntmps33
 go_wp2_with (go_at_call 68; refine Calls.mono (made_t p (some m) _ hcM) ?_; rintro e w' ⟨rfl, hq⟩; have hq := hq.symm; subst hq)
 go_ret; exact ⟨rfl, rfl⟩
def setL (L : List Tm) (N S : Nat) (id : Int) (at_ : Nat) : List Tm := L.filter (fun t => decide (t.id ≠ id)) ++ [⟨id, max (min at_ mxN) (N + 1), S + 1⟩]
set_option maxRecDepth 20000 in
set_option maxHeartbeats 1600000 in
theorem set_t (h : Wt w p m N S L V) (id : Int) (x : Nat) (hid : inI id) (hL : L.length ≤ 4398046511104) (hS : S < 18446744073709551615) :
 Calls Tryz.prog 101 #[.pointer (some ⟨p, 0, none⟩), .int .i64 id, .int .u64 (x : Int)] w fun e w' => e = .returned (.int .i64 0) ∧ ∃ V', Wt w' p m N (S + 1) (setL L N S id x) V' ∧ Stp w w' p m V V' := by
 have hcM : w.cell? ⟨p, 522, none⟩ = some (.map (some m)) := by obtain ⟨F, X, hx, -, -⟩ := h; exact hx.cM
 have hNm : N ≤ 281474976710655 := by obtain ⟨F, X, -, -, ho⟩ := h; exact ho.nN
 obtain ⟨A, hA⟩ : ∃ A, A = max (min x mxN) (N + 1) := ⟨_, rfl⟩
 have HPUT : Hid (∀ (u : World) (V1 : Nat → Nat → Value) (z : Int), z = (A : Int) → (∃ F X, Wx u p m N (S + 1) F ((L.filter (fun t => decide (t.id ≠ id))).map Tm.id) X V1 ∧ RepP N (fun t => t ∈ L.filter (fun t => decide (t.id ≠ id))) F X ∧ Ord N S (L.filter (fun t => decide (t.id ≠ id)))) →
     Calls Tryz.prog 121 #[.pointer (some ⟨p, 0, none⟩), .agg #[.int .i64 id, .int .u64 z, .int .u64 ((S : Int) + 1)]] u fun e w' => e = .returned (.tuple #[]) ∧ ∃ V', Wt w' p m N (S + 1) (setL L N S id x) V' ∧ Stp u w' p m V1 V') := fun u V1 z hz hu => by
   subst hz; obtain ⟨F, X, hx, hr, ho⟩ := hu; have hni : ∀ t, t ∈ L.filter (fun t => decide (t.id ≠ id)) → t.id ≠ id := fun t ht => by simpa using (List.mem_filter.1 ht).2
   have hlen : (L.filter (fun t => decide (t.id ≠ id))).length ≤ 4398046511104 := Nat.le_trans (List.length_filter_le _ _) hL
   have hA1 : N < A ∧ (A ≤ mxN ∨ (N = mxN ∧ A = mxN + 1)) := by
    have h9 : mxN = 281474976710655 := rfl; omega
   have hAm : A ≤ mxN + 1 := by rcases hA1.2 with h9 | h9 <;> omega
   refine Calls.mono (put_w hx ⟨id, A, S + 1⟩ hA1.1 hAm hid (by rw [List.length_map]; exact hlen) (fun k s hk hs => Nat.le_trans (Wt.fewF hr k s hk hs) hlen)) ?_; rintro e w' ⟨rfl, V', hx', hst'⟩
   have hK : insK ((L.filter (fun t => decide (t.id ≠ id))).map Tm.id) id = (setL L N S id x).map Tm.id := by
    unfold insK setL; rw [if_neg, List.map_append]
    · rfl
    · intro h9; obtain ⟨t, ht, e⟩ := List.mem_map.1 h9; exact hni t ht e
   have hx9 : Wx w' p m N (S + 1) (putF F N ⟨id, A, S + 1⟩) ((setL L N S id x).map Tm.id) (updI X id (putPl F N ⟨id, A, S + 1⟩)) V' := by rw [← hK]; exact hx'
   have hsl : setL L N S id x = L.filter (fun t => decide (t.id ≠ id)) ++ [⟨id, A, S + 1⟩] := by unfold setL; rw [hA]
   refine ⟨rfl, V', ⟨_, _, hx9, (RepP.put hr ⟨id, A, S + 1⟩ (fun u hu => hni u hu) (lev_le8 hA1.1 hAm)).congr (fun t => ?_), ?_⟩, hst'⟩
   · rw [hsl]; simp
   · rw [hsl]; refine ⟨ho.nN, ?_, ?_, ?_, ?_, ?_⟩
     · rw [List.map_append]; refine List.nodup_append.2 ⟨ho.nd, by simp, fun a ha b hb e => ?_⟩; obtain ⟨t, ht, rfl⟩ := List.mem_map.1 ha; simp at hb; exact hni t ht (e.trans hb)
     · refine List.pairwise_append.2 ⟨ho.ord, by simp, fun a ha b hb => ?_⟩; simp at hb; rw [hb]; have := ho.le a ha; show a.ord < S + 1; omega
     · intro t ht; rcases List.mem_append.1 ht with h9 | h9
       · have := ho.le t h9; omega
       · simp at h9; rw [h9]; exact Nat.le_refl _
     · intro t ht; rcases List.mem_append.1 ht with h9 | h9
       · exact ho.rg t h9
       · simp at h9; rw [h9]; exact hid
     · intro t ht; rcases List.mem_append.1 ht with h9 | h9
       · exact ho.ats t h9
       · simp at h9; rw [h9]; exact hA1
 have HA : Hid _ := hA; have HW : Hid _ := h; have HL : Hid _ := hL; clear h hL hA; go_enter Tryz.func101, Tryz.ntmps101
 go_wp2_with (first
   | (go_at_call 68; refine Calls.mono (made_t p (some m) _ hcM) ?_; rintro e w' ⟨rfl, hq⟩; have hq := hq.symm; subst hq)
   | (go_at_call 77; refine Calls.mono (stop_t HW.out id hid HL.out) ?_; rintro e w2 ⟨rfl, V2, hw2, hst2⟩; have HST2 : Hid _ := hst2; obtain ⟨F2, X2, hx2, hr2, ho2⟩ := hw2; have hcS := hx2.cS; have hcN := hx2.cN; have hfS : w2.frozen? ⟨p, 1, none⟩ = false := (by obtain ⟨fl, h1, -⟩ := hx2; exact h1.fz _); have HX2 : Hid _ := hx2; have HR2 : Hid _ := And.intro hr2 ho2; clear hst2 hx2 hr2 ho2))
 obtain ⟨w3, hw3⟩ : ∃ w3, w3 = w2.setCell ⟨p, 1, none⟩ (.int .u64 ((S : Int) + 1)) := ⟨_, rfl⟩
 have hx3 : Wx w3 p m N (S + 1) F2 ((L.filter (fun t => decide (t.id ≠ id))).map Tm.id) X2 V2 := by
  obtain ⟨fl, h1, h2⟩ := HX2.out; have h9 := h1.stS (S + 1); rw [hw3]; exact ⟨fl, by simpa using h9, h2⟩
 have hst3 : Stp w w3 p m V V2 := by rw [hw3]; exact HST2.out.set _ _
 rw [← hw3]; have hS3 : w3.cell? ⟨p, 0, none⟩ = some (.int .u64 (N : Int)) ∧ w3.cell? ⟨p, 1, none⟩ = some (.int .u64 ((S : Int) + 1)) := ⟨hx3.cN, by have := hx3.cS; simpa using this⟩; have HX3 : Hid _ := hx3; have HST3 : Hid _ := hst3; clear hw3 hx3 hst3 hcS hcN hfS; refine wp_region_noPanic ?_; refine wp_region_held_drew (S := (fun u => u.cell? ⟨p, 0, none⟩ = some (.int .u64 (N : Int)) ∧ u.cell? ⟨p, 1, none⟩ = some (.int .u64 ((S : Int) + 1)))) (by kernel_rfl) (by first | exact hS3 | exact hS6) (fun hHeld => ?_); refine tz 0 20 hHeld ?_; simp only [pS]; refine tz 1 21 hHeld ?_; simp only [pS]; refine tz 2 22 hHeld ?_; simp only [pS]; refine tz 4 24 hHeld ?_; simp only [pS]; refine tz 5 25 hHeld ?_; simp only [pS]; refine tz 6 26 hHeld ?_; simp only [pS]; refine tz 7 27 hHeld ?_; simp only [pS]; refine tz 8 28 hHeld ?_; simp only [pS]; refine tz 10 30 hHeld ?_; simp only [pS]; refine tz 11 31 hHeld ?_; simp only [pS]; refine tz 12 32 hHeld ?_; simp only [pS]; refine tz 13 33 hHeld ?_; simp only [pS]; refine run_at (i := 3) rfl (by kernel_rfl) (by rfl) (fun K hK => ?_); simp only [gE]; go_simp
 first | (go_at_call 67; refine Calls.mono (time_t x _) ?_; rintro e u4 ⟨rfl, hq4⟩; have hq4 := hq4.symm; subst hq4) | (go_at_call 121; refine Calls.mono (HPUT.out _ V2 _ (by rw [HA.out, IntKind.wrap_u64]; have h9 : mxN = 281474976710655 := rfl; omega) ⟨F2, X2, Wx.below HX3.out (bR _ _).drew, HR2.out.1, HR2.out.2⟩) ?_; rintro e w6 ⟨rfl, V6, hw6, hst6⟩; have hS6 : w6.cell? ⟨p, 0, none⟩ = some (.int .u64 (N : Int)) ∧ w6.cell? ⟨p, 1, none⟩ = some (.int .u64 ((S : Int) + 1)) := (by obtain ⟨F6, X6, hx6, -, -⟩ := hw6; exact ⟨hx6.cN, by have := hx6.cS; simpa using this⟩))
 (go_wp2_with fail); refine hK.out _ _ (by first | exact hS3 | exact hS6) ?_; clear hK K; clear hHeld; intro hHeld; (try simp only [pS]); refine run_at (i := 9) rfl (by kernel_rfl) (by rfl) (fun K hK => ?_); simp only [gE]; go_simp; (go_wp2_with fail); refine hK.out _ _ (by first | exact hS3 | exact hS6) ?_; clear hK K; clear hHeld; intro hHeld; (try simp only [pS]); refine tz 14 34 hHeld ?_; simp only [pS]; refine run_at (i := 15) rfl (by kernel_rfl) (by rfl) (fun K hK => ?_); simp only [gE]; go_simp
 first | (go_at_call 67; refine Calls.mono (time_t x _) ?_; rintro e u4 ⟨rfl, hq4⟩; have hq4 := hq4.symm; subst hq4) | (go_at_call 121; refine Calls.mono (HPUT.out _ V2 _ (by rw [HA.out, IntKind.wrap_u64]; have h9 : mxN = 281474976710655 := rfl; omega) ⟨F2, X2, Wx.below HX3.out (bR _ _).drew, HR2.out.1, HR2.out.2⟩) ?_; rintro e w6 ⟨rfl, V6, hw6, hst6⟩; have hS6 : w6.cell? ⟨p, 0, none⟩ = some (.int .u64 (N : Int)) ∧ w6.cell? ⟨p, 1, none⟩ = some (.int .u64 ((S : Int) + 1)) := (by obtain ⟨F6, X6, hx6, -, -⟩ := hw6; exact ⟨hx6.cN, by have := hx6.cS; simpa using this⟩))
 (go_wp2_with fail); refine hK.out _ _ (by first | exact hS3 | exact hS6) ?_; clear hK K; clear hHeld; intro hHeld; (try simp only [pS]); refine wpAnyH_done (by kernel_rfl) ?_ _; refine NoPanic.normal ?_; go_wp2; go_ret; exact ⟨rfl, V6, hw6, (HST3.out.trans (Stp.below (bR _ _).drew _ _ _)).trans hst6⟩
end
end Go.Proofs.YtpakkpahcpgnnaaGreatDoor.Wh
namespace Go.Proofs.YtpakkpahcpgnnaaGreatDoor.Wh
open Go.RowKit Go.Maps
def tkF (F : Nat → Nat → List Tm) (r : Nat) : Nat → Nat → List Tm := fun k s => if k < r ∧ s < 64 then [] else F k s
def catA (F : Nat → Nat → List Tm) (r : Nat) : List Tm := (List.range r).flatMap (fun k => catF F k 64)
theorem tkF_zero (F : Nat → Nat → List Tm) : tkF F 0 = F := by funext k s; simp [tkF]
theorem tkF_at (F : Nat → Nat → List Tm) {k r : Nat} (h : r ≤ k) (s : Nat) : tkF F r k s = F k s := by unfold tkF; rw [if_neg (by omega)]
theorem tkF_step (F : Nat → Nat → List Tm) (r : Nat) : takF (tkF F r) r 64 = tkF F (r + 1) := by
 funext k s
 unfold takF tkF
 by_cases h1 : k = r
 · subst h1
   by_cases h2 : s < 64
   · simp [h2]
   · simp [h2]
 · by_cases h2 : k < r
   · by_cases h3 : s < 64
     · simp [h1, h2, h3, show k < r + 1 by omega]
     · simp [h1, h3]
   · simp [h1, h2, show ¬ k < r + 1 by omega]
theorem catF_tk (F : Nat → Nat → List Tm) {k r : Nat} (h : r ≤ k) (j : Nat) : catF (tkF F r) k j = catF F k j := by
 unfold catF
 congr 1
 funext s
 exact tkF_at F h s
theorem catA_step (F : Nat → Nat → List Tm) (r : Nat) : catA F (r + 1) = catA F r ++ catF F r 64 := by
 unfold catA; rw [List.range_succ, List.flatMap_append]; simp
theorem catF_mem {F : Nat → Nat → List Tm} {k r : Nat} {t : Tm} : t ∈ catF F k r ↔ ∃ s, s < r ∧ t ∈ F k s := by
 unfold catF; simp [List.mem_flatMap]
theorem catA_mem {F : Nat → Nat → List Tm} {r : Nat} {t : Tm} : t ∈ catA F r ↔ ∃ k, k < r ∧ ∃ s, s < 64 ∧ t ∈ F k s := by
 unfold catA; simp [List.mem_flatMap, catF_mem]
section
variable {N N' S : Nat} {L : List Tm} {F : Nat → Nat → List Tm} {X : Int → Pl}
theorem catF_in (hr : RepP N (fun t => t ∈ L) F X) {k r : Nat} (hk : k < 8) (hr64 : r ≤ 64) {t : Tm} : t ∈ catF F k r ↔ t ∈ L ∧ lev t.at_ N = k ∧ slt t.at_ k < r := by
 rw [catF_mem]; constructor
 · rintro ⟨s, hs, h1⟩; obtain ⟨h2, h3, h4⟩ := (hr.mem k s t hk (by omega)).1 h1; exact ⟨h2, h3, by omega⟩
 · rintro ⟨h1, h2, h3⟩; exact ⟨_, h3, (hr.mem k _ t hk (by omega)).2 ⟨h1, h2, rfl⟩⟩
theorem catF_nd (hr : RepP N (fun t => t ∈ L) F X) {k : Nat} (hk : k < 8) : ∀ {r : Nat}, r ≤ 64 → (catF F k r).Nodup := by
 intro r
 induction r with
 | zero => intro _; exact List.nodup_nil
 | succ r ih =>
  intro h; rw [catF_step]; refine List.nodup_append.2 ⟨ih (by omega), hr.fnd k r hk (by omega), fun a ha b hb e => ?_⟩; subst e; have h1 := (catF_in hr hk (by omega)).1 ha; have h2 := (hr.mem k r a hk (by omega)).1 hb; omega
theorem catA_in (hr : RepP N (fun t => t ∈ L) F X) {r : Nat} (hk : r ≤ 8) {t : Tm} : t ∈ catA F r ↔ t ∈ L ∧ lev t.at_ N < r := by
 rw [catA_mem]; constructor
 · rintro ⟨k, hk', s, hs, h1⟩; obtain ⟨h2, h3, h4⟩ := (hr.mem k s t (by omega) hs).1 h1; exact ⟨h2, by omega⟩
 · rintro ⟨h1, h2⟩; exact ⟨_, h2, _, slt_lt t.at_ (lev t.at_ N), (hr.mem _ _ t (by omega) (slt_lt _ _)).2 ⟨h1, rfl, rfl⟩⟩
theorem catA_nd (hr : RepP N (fun t => t ∈ L) F X) : ∀ {r : Nat}, r ≤ 8 → (catA F r).Nodup := by
 intro r
 induction r with
 | zero => intro _; exact List.nodup_nil
 | succ r ih =>
  intro h; rw [catA_step]; refine List.nodup_append.2 ⟨ih (by omega), catF_nd hr (by omega) (Nat.le_refl _), fun a ha b hb e => ?_⟩; subst e; have h1 := (catA_in hr (by omega)).1 ha; have h2 := (catF_in hr (by omega) (Nat.le_refl _)).1 hb; omega
theorem catA_le (hr : RepP N (fun t => t ∈ L) F X) {r : Nat} (h : r ≤ 8) : (catA F r).length ≤ L.length := sub_len (catA_nd hr h) (fun t ht => ((catA_in hr h).1 ht).1)
theorem catF_len (hr : RepP N (fun t => t ∈ L) F X) {k r : Nat} (hk : k < 8) (h : r ≤ 64) : (catF F k r).length ≤ L.length := sub_len (catF_nd hr hk h) (fun t ht => ((catF_in hr hk h).1 ht).1)
theorem turn_where (ho : Ord N S L) (hN : N < N') {t : Tm} (ht : t ∈ L) (hl : N' < t.at_) (hn : ¬ (lev t.at_ N = lev N' N ∧ slt t.at_ (lev N' N) ≤ slt N' (lev N' N))) : lev t.at_ N' = lev t.at_ N ∧ (lev N' N < lev t.at_ N ∨ (lev t.at_ N = lev N' N ∧ slt N' (lev N' N) < slt t.at_ (lev N' N))) := by
 have h0 := (ho.ats t ht).1; rcases Nat.lt_trichotomy (lev t.at_ N) (lev N' N) with h1 | h1 | h1
 · have := turn_below h0 hN h1; omega
 · have h2 : slt N' (lev N' N) < slt t.at_ (lev N' N) := by
    apply Classical.byContradiction; intro h9; exact hn ⟨h1, by omega⟩
   exact ⟨(turn_behind h0 hN h1 h2).2, .inr ⟨h1, h2⟩⟩
 · exact ⟨(turn_above h0 hN h1).2, .inl h1⟩
theorem turn_rep (hr : RepP N (fun t => t ∈ L) F X) (ho : Ord N S L) (hN : N < N') (hm : N' ≤ mxN) :
 RepP N' (fun t => t ∈ L ∧ N' < t.at_ ∧ ¬ (lev t.at_ N = lev N' N ∧ slt t.at_ (lev N' N) ≤ slt N' (lev N' N))) (takF (tkF F (lev N' N)) (lev N' N) (slt N' (lev N' N) + 1)) X := by
 have hk8 := lev_lt8 hN hm; have hl64 := slt_lt N' (lev N' N); have hw := fun t (h : t ∈ L ∧ N' < t.at_ ∧ ¬ (lev t.at_ N = lev N' N ∧ slt t.at_ (lev N' N) ≤ slt N' (lev N' N))) => turn_where ho hN h.1 h.2.1 h.2.2
 generalize hk : lev N' N = k at *; generalize hl : slt N' k = last at *
 have far : ∀ k' s', s' < 64 → (k < k' ∨ (k' = k ∧ last < s')) → takF (tkF F k) k (last + 1) k' s' = F k' s' := fun k' s' h1 h2 => by
  unfold takF tkF; rw [if_neg (by omega), if_neg (by omega)]
 have near : ∀ k' s', s' < 64 → ¬ (k < k' ∨ (k' = k ∧ last < s')) → takF (tkF F k) k (last + 1) k' s' = [] := fun k' s' h1 h2 => by
  unfold takF tkF
  by_cases h3 : k' = k ∧ s' < last + 1
  · rw [if_pos h3]
  · rw [if_neg h3, if_pos (by omega)]
 refine ⟨fun k' s' t hk' hs' => ?_, fun k' s' hk' hs' => ?_, fun t ht h8 => ?_, fun t ht h8 => ?_, fun t u ht hu => hr.uni t u ht.1 hu.1⟩
 · by_cases h1 : k < k' ∨ (k' = k ∧ last < s')
   · rw [far k' s' hs' h1, hr.mem k' s' t hk' hs']; constructor
     · rintro ⟨h2, h3, h4⟩; have h0 := (ho.ats t h2).1; rcases h1 with h1 | ⟨h1, h5⟩
       · have h6 := turn_above h0 hN (by rw [hk, h3]; exact h1); exact ⟨⟨h2, h6.1, by omega⟩, h6.2.trans h3, h4⟩
       · subst h1; have h6 := turn_behind h0 hN (by rw [hk, h3]) (by rw [hk, hl, h4]; exact h5); exact ⟨⟨h2, h6.1, by omega⟩, h6.2.trans h3, h4⟩
     · rintro ⟨h2, h3, h4⟩; have h5 := hw t h2; exact ⟨h2.1, by omega, h4⟩
   · rw [near k' s' hs' h1]; constructor
     · intro h9; cases h9
     · rintro ⟨h2, h3, h4⟩; have h5 := hw t h2
       exfalso
       apply h1; rcases h5.2 with h6 | ⟨h6, h7⟩
       · exact .inl (by omega)
       · have h8 : k' = k := by omega
         subst h8; exact .inr ⟨rfl, by omega⟩
 · by_cases h1 : k < k' ∨ (k' = k ∧ last < s')
   · rw [far k' s' hs' h1]; exact hr.fnd k' s' hk' hs'
   · rw [near k' s' hs' h1]; exact List.nodup_nil
 · have h5 := hw t ht; obtain ⟨i, h6, h7⟩ := hr.pl t ht.1 (by omega); refine ⟨i, by rw [h5.1]; exact h6, ?_⟩; rw [h5.1, far _ _ (slt_lt _ _)]
   · exact h7
   · rcases h5.2 with h8 | ⟨h8, h9⟩
     · exact .inl h8
     · exact .inr ⟨h8, by rw [h8]; exact h9⟩
 · have h5 := hw t ht; exact hr.p8 t ht.1 (by omega)
theorem turn_due (hr : RepP N (fun t => t ∈ L) F X) (ho : Ord N S L) (hN : N < N') (hm : N' ≤ mxN) (t : Tm) : t ∈ catA F (lev N' N) ++ (catF F (lev N' N) (slt N' (lev N' N) + 1)).filter (fun t => decide (t.at_ ≤ N')) ↔ t ∈ L ∧ t.at_ ≤ N' := by
 have hk8 := lev_lt8 hN hm; have hl64 := slt_lt N' (lev N' N); rw [List.mem_append, List.mem_filter, catA_in hr (by omega), catF_in hr hk8 (by omega)]; constructor
 · rintro (⟨h1, h2⟩ | ⟨⟨h1, -, -⟩, h2⟩)
   · have := turn_below (ho.ats t h1).1 hN h2; exact ⟨h1, by omega⟩
   · exact ⟨h1, by simpa using h2⟩
 · rintro ⟨h1, h2⟩; have h0 := (ho.ats t h1).1; rcases Nat.lt_trichotomy (lev t.at_ N) (lev N' N) with h3 | h3 | h3
   · exact .inl ⟨h1, h3⟩
   · refine .inr ⟨⟨h1, h3, ?_⟩, by simpa using h2⟩; apply Classical.byContradiction; intro h9; have := (turn_behind h0 hN h3 (by omega)).1; omega
   · have := (turn_above h0 hN h3).1; omega
theorem turn_nd (hr : RepP N (fun t => t ∈ L) F X) (hN : N < N') (hm : N' ≤ mxN) : (catA F (lev N' N) ++ (catF F (lev N' N) (slt N' (lev N' N) + 1)).filter (fun t => decide (t.at_ ≤ N'))).Nodup := by
 have hk8 := lev_lt8 hN hm; have hl64 := slt_lt N' (lev N' N); refine List.nodup_append.2 ⟨catA_nd hr (by omega), (catF_nd hr hk8 (by omega)).filter _, fun a ha b hb e => ?_⟩; subst e; have h1 := (catA_in hr (by omega)).1 ha; have h2 := (catF_in hr hk8 (by omega)).1 (List.mem_filter.1 hb).1; omega
theorem turn_stay (hr : RepP N (fun t => t ∈ L) F X) (ho : Ord N S L) (hN : N < N') (hm : N' ≤ mxN) (t : Tm) : ((t ∈ L ∧ N' < t.at_ ∧ ¬ (lev t.at_ N = lev N' N ∧ slt t.at_ (lev N' N) ≤ slt N' (lev N' N))) ∨ (t ∈ catF F (lev N' N) (slt N' (lev N' N) + 1) ∧ N' < t.at_)) ↔ t ∈ L ∧ N' < t.at_ := by
 have hk8 := lev_lt8 hN hm; have hl64 := slt_lt N' (lev N' N); rw [catF_in hr hk8 (by omega)]; constructor
 · rintro (⟨h1, h2, -⟩ | ⟨⟨h1, -, -⟩, h2⟩)
   · exact ⟨h1, h2⟩
   · exact ⟨h1, h2⟩
 · rintro ⟨h1, h2⟩
   by_cases h3 : lev t.at_ N = lev N' N ∧ slt t.at_ (lev N' N) ≤ slt N' (lev N' N)
   · exact .inr ⟨⟨h1, h3.1, by omega⟩, h2⟩
   · exact .inl ⟨h1, h2, h3⟩
end
end Go.Proofs.YtpakkpahcpgnnaaGreatDoor.Wh
namespace Go.Proofs.YtpakkpahcpgnnaaGreatDoor.Wh
open Go.RowKit Go.Maps
theorem wp_app1M {w : World} {ops : Array Oper} {rest : List Oper} {o : Oper} {a : Act} {Q : Exit → Act → World → Prop} (hgd : o.guard = none) (s x : Operand)
 (ho : o.op = .call { callee := .builtin .append, args := #[s, x], argTypes := #[tTms, tTms] }) (B : Nat) (v : Value) (xs : List Tm) (t : Tm) (g0 : Nat)
 (hs : a.eval s = v) (hown : OwnM w B v xs) (hx : a.eval x = .slice (some ⟨g0, 0, none⟩) 1 1) (hr : w.heap[g0]? = some (.cells #[.int .i64 t.id, .int .u64 (t.at_ : Int), .int .u64 (t.ord : Int)] tTm (0, 0)))
 (hb : xs.length + 1 ≤ 4398046511104) (hbase : B ≤ w.heap.size)
 (h : ∀ v' w', OwnM w' B v' (xs ++ [t]) → w.grownBy w' v.ownBlock → (∀ b, v'.ownBlock = some b → v.ownBlock = some b ∨ b = w.heap.size) → wpList Tryz.prog ops Q rest (a.put o.dst v') w') : wpList Tryz.prog ops Q (o :: rest) a w := by
 obtain ⟨i0, hi, hz0, hz1, hz2⟩ := info_parts infoM; refine wpList_append_lies w hgd s x tTms ho B tTm i0 (.agg #[.int .i64 0, .int .u64 0, .int .u64 0]) 3 24 Tryz.underlying132 hi hz0 hz1 hz2 rfl (by decide) v xs.length (flatM xs) hs hown ⟨g0, 0, none⟩ 1 1 (tmv t) hx rfl (World.news_of_block hr) (by intro u hu; simp at hu; rcases hu with rfl | rfl | rfl <;> rfl) (by decide) (by simp only [maxLen]; omega) (by omega) hbase _ rfl ?_; intro g cap w' h1 h2 h3 h4; refine h _ w' ?_ h2 (fun b e => ?_)
 · unfold OwnM; rw [List.length_append, flatM_app, flatM_one]; exact h1
 · cases e; exact h3
section
variable {w w' : World} {p m N N' S : Nat} {L : List Tm} {F : Nat → Nat → List Tm} {V : Nat → Nat → Value} {KS : List Int} {X : Int → Pl}
set_option maxRecDepth 20000 in
set_option maxHeartbeats 3200000 in
theorem turn_t (hx : Wx w p m N S F (L.map Tm.id) X V) (hr : RepP N (fun t => t ∈ L) F X) (ho : Ord N S L) (hN : N < N') (hm : N' ≤ mxN) (hL : L.length ≤ 4398046511104) (ht : TabZ w) :
 Calls Tryz.prog 104 #[.pointer (some ⟨p, 0, none⟩), .int .u64 (N' : Int)] w fun e w' => ∃ v D V' F' X', e = .returned v ∧ OwnM w' w.heap.size v D ∧ D.Nodup ∧ (∀ t, t ∈ D ↔ t ∈ L ∧ t.at_ ≤ N') ∧ Wx w' p m N' S F' (L.map Tm.id) X' V' ∧ RepP N' (fun t => t ∈ L ∧ N' < t.at_) F' X' ∧ Stp w w' p m V V' ∧ ∀ b, v.ownBlock = some b → ¬ footW p m V' b := by
 obtain ⟨k, hk⟩ : ∃ k, k = lev N' N := ⟨_, rfl⟩; obtain ⟨last, hl⟩ : ∃ last, last = slt N' k := ⟨_, rfl⟩; have hl64 : last < 64 := by rw [hl]; exact slt_lt _ _
 have hk8 : k < 8 := by rw [hk]; exact lev_lt8 hN hm
 have HSD : Hid (∀ u : World, Calls Tryz.prog 122 #[.int .u64 (N' : Int), .int .u64 (N : Int)] u fun e w' => e = .returned (.tuple #[.int .i64 (k : Int), .int .i64 (last : Int)]) ∧ Drw u w') := fun u => by
  have h9 := stand_t N' N hN (Nat.le_succ_of_le hm) u; rw [← hk, ← hl] at h9; exact h9
 have hrep := turn_rep hr ho hN hm; have hdue := turn_due hr ho hN hm; have hnd := turn_nd hr hN hm; have hstay := turn_stay hr ho hN hm; rw [← hk, ← hl] at hrep hdue hnd hstay; have hpl := hx.lt (.inl rfl : footW p m V p); have hcN := hx.cN; have hfN : w.frozen? ⟨p, 0, none⟩ = false := by obtain ⟨fl, h1, -⟩ := hx; exact h1.fz _
 have HX : Hid _ := hx; have HR : Hid _ := hr; have HO : Hid _ := ho; have HT : Hid _ := ht; have HREP : Hid _ := hrep; have HDUE : Hid _ := hdue; have HND : Hid _ := hnd; have HSTAY : Hid _ := hstay; have HL : Hid _ := hL; clear hx hr ho ht hrep hdue hnd hstay hk hl hL; go_enter Tryz.func104, Tryz.ntmps104
 go_wp2_with (go_at_call 122; refine Calls.mono (HSD.out _) ?_; rintro e w1 ⟨rfl, n1, rfl⟩)
 obtain ⟨w2, hw2⟩ : ∃ w2, w2 = (w.drewN n1).setCell ⟨p, 0, none⟩ (.int .u64 (N' : Int)) := ⟨_, rfl⟩
 have hx2 : Wx w2 p m N' S (tkF F 0) (L.map Tm.id) X V := by
  rw [hw2, tkF_zero]; obtain ⟨fl, h1, h2⟩ := HX.out; exact ⟨fl, (h1.drw ⟨n1, rfl⟩).stN N', h2⟩
 have hst2 : Stp w w2 p m V V := by
  rw [hw2]; exact ((Stp.refl w p m V).drw ⟨n1, rfl⟩).set _ _
 rw [← hw2]; clear hw2 hcN hfN; go_loopw [4, 24] (fun v i wr => ∃ (r : Nat) (V' : Nat → Nat → Value), r ≤ k ∧ i = .int .i64 (r : Int) ∧ Wx wr p m N' S (tkF F r) (L.map Tm.id) X V' ∧ Stp w wr p m V V' ∧ (∀ b, footW p m V' b → footW p m V b) ∧ OwnM wr w.heap.size v (catA F r)) (fun _ i _ => k - (intOf i).toNat)
 case atStart => exact ⟨0, V, Nat.zero_le _, rfl, hx2, hst2, fun _ h9 => h9, World.ownsRow_nil _ _ _ _⟩
 case round =>
  obtain ⟨r, V1, hrk, rfl, hx1, hst1, hsub1, hown1⟩ := hrel; clear hx2 hst2; have hsz : w.heap.size ≤ wr.heap.size := hst1.chg.size; have HX1 : Hid _ := hx1; have HST1 : Hid _ := hst1; have HSB1 : Hid _ := hsub1; have HOW1 : Hid _ := hown1; have HTR : Hid (TabZ wr) := hst1.tab (by obtain ⟨_, _, _, h9⟩ := HX.out; exact h9) HT.out; clear hx1 hst1 hsub1 hown1
  by_cases hlt : r < k
  · have hle : (catA F r).length + (catF F r 64).length ≤ 4398046511104 := by
     have h8 := catA_le HR.out (show r + 1 ≤ 8 by omega); rw [catA_step, List.length_append] at h8; have := HL.out; omega
    have hcl : (catF (tkF F r) r 64).length ≤ 4398046511104 := by rw [catF_tk F (Nat.le_refl r)]; omega
    go_wp2_with (first
      | (go_at_call 123; refine Calls.mono (take_w HX1.out r 63 _ (by omega) (by decide) (by omega) HTR.out hcl) ?_; rintro e w3 ⟨v3, V3, rfl, hown3, hx3, hst3, hsub3⟩; rw [catF_tk F (Nat.le_refl r)] at hown3; rw [tkF_step] at hx3; obtain ⟨a3, c3, hv3, hc3, hnil3, hrd3⟩ := hown3.val; obtain ⟨n3, hn3⟩ : ∃ n3, n3 = (catF F r 64).length := ⟨_, rfl⟩; rw [← hn3] at hv3 hle; subst hv3; have hown13 : OwnM w3 w.heap.size u4 (catA F r) := rowM_kept HOW1.out (fun b hb => hst3.chg.block b (World.ownsRow.lt HOW1.out b hb).2 (fun h9 => by have h7 := Wx.lt HX.out (HSB1.out b h9); have h8 := (World.ownsRow.lt HOW1.out b hb).1; omega)); have HO13 : Hid _ := hown13; have HX3 : Hid _ := hx3; have HST3 : Hid (Stp w w3 p m V V3) := HST1.out.trans hst3; have HSB3 : Hid (∀ b, footW p m V3 b → footW p m V b) := fun b h9 => HSB1.out b (hsub3 b h9); have HRD3 : Hid _ := hrd3; have HNL3 : Hid _ := hnil3; have HN3 : Hid _ := hn3; have hsz3 : w.heap.size ≤ w3.heap.size := Nat.le_trans hsz hst3.chg.size; clear hown13 hx3 hst3 hsub3 hrd3 hnil3 hn3 hown3)
      | (at_builtin; refine wp_appM rfl _ _ rfl w.heap.size _ (catA F r) (catF F r 64) n3 a3 c3 HN3.out rfl HO13.out rfl HRD3.out HNL3.out hle hsz3 ?_; intro v4 w4 hown4 hg4; have HO4 : Hid _ := hown4; have HG4 : Hid _ := hg4; clear hown4 hg4))
    go_roundw
    case rel =>
     refine ⟨r + 1, V3, hlt, by go_num, Wx.chg (G := fun b => w.heap.size ≤ b) HX3.out (Chg.of_grown HG4.out (fun b e => (World.ownsRow.lt HO13.out b e).1)) (fun b hf h9 => by have := Wx.lt HX.out (HSB3.out b hf); omega), HST3.out.belowEnd ((bR _ _).grown HG4.out hsz3 (fun b e => (World.ownsRow.lt HO13.out b e).1)) (Nat.le_refl _), HSB3.out, ?_⟩; rw [catA_step]; exact HO4.out
    case measure => simp [intOf]; omega
  · obtain rfl : r = k := by omega
    have hcl : (catF (tkF F r) r 64).length ≤ 4398046511104 := by
     rw [catF_tk F (Nat.le_refl r)]; have := catF_len HR.out hk8 (Nat.le_refl 64); have := HL.out; omega
    obtain ⟨R, hR⟩ : ∃ R, R = catF F r (last + 1) := ⟨_, rfl⟩; have hRL : ∀ t, t ∈ R → t ∈ L := fun t ht => by rw [hR] at ht; exact ((catF_in HR.out hk8 (by omega)).1 ht).1
    have hRn : R.Nodup := by rw [hR]; exact catF_nd HR.out hk8 (by omega)
    have hRQ : ∀ t, t ∈ R → ¬ (t ∈ L ∧ N' < t.at_ ∧ ¬ (lev t.at_ N = r ∧ slt t.at_ r ≤ last)) := fun t ht h9 => by
     rw [hR] at ht; have := (catF_in HR.out hk8 (by omega)).1 ht; exact h9.2.2 ⟨this.2.1, by omega⟩
    rw [← hR] at HDUE HND HSTAY; have hRl : R.length ≤ 4398046511104 := Nat.le_trans (sub_len hRn hRL) HL.out; have HRL : Hid _ := hRL; have HRN : Hid _ := hRn; have HRQ : Hid _ := hRQ; have HRR : Hid _ := hR; clear hRL hRn hRQ hR hrk hlt
    go_wp2_with (first
      | (go_at_call 123; refine Calls.mono (take_w HX1.out r last _ hk8 hl64 (by omega) HTR.out hcl) ?_; rintro e w3 ⟨v3, V3, rfl, hown3, hx3, hst3, hsub3⟩; rw [catF_tk F (Nat.le_refl r), ← HRR.out] at hown3; obtain ⟨a3, c3, hv3, hc3, hnil3, hrd3⟩ := hown3.val; obtain ⟨n3, hn3⟩ : ∃ n3, n3 = R.length := ⟨_, rfl⟩; rw [← hn3] at hv3; subst hv3; have hown13 : OwnM w3 w.heap.size u4 (catA F r) := rowM_kept HOW1.out (fun b hb => hst3.chg.block b (World.ownsRow.lt HOW1.out b hb).2 (fun h9 => by have h7 := Wx.lt HX.out (HSB1.out b h9); have h8 := (World.ownsRow.lt HOW1.out b hb).1; omega)); have HO13 : Hid _ := hown13; have HO3 : Hid _ := hown3; have HX3 : Hid _ := hx3; have HST3 : Hid (Stp w w3 p m V V3) := HST1.out.trans hst3; have HSB3 : Hid (∀ b, footW p m V3 b → footW p m V b) := fun b h9 => HSB1.out b (hsub3 b h9); have HN3 : Hid _ := hn3; have hsz3 : w.heap.size ≤ w3.heap.size := Nat.le_trans hsz hst3.chg.size; clear hown13 hx3 hst3 hsub3 hrd3 hnil3 hn3 hown3 hc3))
    go_loopw [4, 44] (fun v i ws => ∃ (j : Nat) (V2 : Nat → Nat → Value) (F2 : Nat → Nat → List Tm) (X2 : Int → Pl), j ≤ R.length ∧ i = .int .i64 (j : Int) ∧ Wx ws p m N' S F2 (L.map Tm.id) X2 V2 ∧ RepP N' (fun t => (t ∈ L ∧ N' < t.at_ ∧ ¬ (lev t.at_ N = r ∧ slt t.at_ r ≤ last)) ∨ (t ∈ R.take j ∧ N' < t.at_)) F2 X2 ∧ Stp w ws p m V V2 ∧ OwnM ws w.heap.size v (catA F r ++ (R.take j).filter (fun t => decide (t.at_ ≤ N'))) ∧ OwnM ws 0 (.slice a3 n3 c3) R ∧ (∀ b, v.ownBlock = some b → (Value.slice a3 n3 c3).ownBlock ≠ some b ∧ ¬ footW p m V2 b) ∧ ∀ b, (Value.slice a3 n3 c3).ownBlock = some b → ¬ footW p m V2 b) (fun _ i _ => R.length - (intOf i).toNat)
    case atStart =>
     refine ⟨0, V3, _, X, Nat.zero_le _, rfl, HX3.out, HREP.out.congr (fun t => by simp), HST3.out, ?_, ?_, fun b hb => ⟨fun h9 => ?_, fun h9 => ?_⟩, fun b hb h9 => ?_⟩
     · have h9 : OwnM w3 w.heap.size u4 (catA F r) := HO13.out
       simpa using h9
     · exact ⟨HO3.out.1, HO3.out.2.imp id (fun ⟨g, cap, cur, h1, h2, h3⟩ => ⟨g, cap, cur, h1, Nat.zero_le _, h3⟩)⟩
     · have h7 := (World.ownsRow.lt HO3.out b h9).1; have h8 := (World.ownsRow.lt HOW1.out b hb).2; omega
     · have h7 := Wx.lt HX.out (HSB3.out b h9); have h8 := (World.ownsRow.lt HOW1.out b hb).1; omega
     · have h7 := Wx.lt HX.out (HSB3.out b h9); have h8 := (World.ownsRow.lt HO3.out b hb).1; omega
    case round =>
     obtain ⟨j, V2, F2, X2, hj, rfl, hx2, hr2, hst2, hown2, hrow, hdis, hfr⟩ := hrel; have hP : ∀ t, ((t ∈ L ∧ N' < t.at_ ∧ ¬ (lev t.at_ N = r ∧ slt t.at_ r ≤ last)) ∨ (t ∈ R.take j ∧ N' < t.at_)) → t ∈ L := fun t h9 => h9.elim (fun h8 => h8.1) (fun h8 => HRL.out t (List.mem_of_mem_take h8.1))
     by_cases hlt : j < R.length
     · obtain ⟨t, hT⟩ : ∃ t, t = R[j] := ⟨_, rfl⟩; have htR : t ∈ R := by rw [hT]; exact List.getElem_mem _
       have htL : t ∈ L := HRL.out t htR; obtain ⟨g, cc, hv⟩ := hrow.one (fun e => by rw [e] at hlt; cases hlt); obtain ⟨rfl, -, rfl⟩ := Value.slice.inj hv; obtain ⟨c0, c1, c2⟩ := hrow.cells3 HN3.out j hlt; rw [← hT] at c0 c1 c2; have hjn : j < n3 := by rw [HN3.out]; exact hlt
       have hgl := hrow.lt; have hn3m : n3 ≤ 4398046511104 := by rw [HN3.out]; exact hRl
       have htk : R.take (j + 1) = R.take j ++ [t] := by rw [List.take_succ_eq_append_getElem hlt, ← hT]
       have hnotin : t ∉ R.take j := fun h9 => by
        obtain ⟨i9, h8⟩ := List.mem_iff_getElem?.1 h9
        have h7 : i9 < j := by
         have := (List.getElem?_eq_some_iff.1 h8).1; rw [List.length_take] at this; omega
        rw [List.getElem?_take_of_lt h7] at h8; have h6 : R[j]? = some t := by rw [List.getElem?_eq_getElem hlt, hT]
        have := nodup_inj HRN.out h8 h6; omega
       have HTK : Hid _ := htk; have HX2 : Hid _ := hx2; have HR2 : Hid _ := hr2; have HST2 : Hid _ := hst2; have HOW2 : Hid _ := hown2; have HROW : Hid _ := hrow; have HDIS : Hid _ := hdis; have HFR : Hid _ := hfr; have HP : Hid _ := hP; have HTI : Hid _ := And.intro htL (And.intro htR hnotin); have hszr : w.heap.size ≤ wr.heap.size := hst2.chg.size; clear htk hx2 hr2 hst2 hown2 hrow hdis hfr hP htL htR hnotin hv hT
       by_cases hat : N' < t.at_
       · have hati : (N' : Int) < (t.at_ : Int) := by omega
         have HLEN : Hid (∀ k s, k < 8 → s < 64 → (F2 k s).length ≤ 4398046511104) := fun k s hk hs => Nat.le_trans (sub_len (HR2.out.fnd k s hk hs) (fun u hu => HP.out u ((HR2.out.mem k s u hk hs).1 hu).1)) HL.out
         go_wp2_with (go_at_call 121; refine Calls.mono (put_w (Wx.below HX2.out (al (bR _ _) _)) t hat (by rcases (HO.out.ats t HTI.out.1).2 with h9 | h9 <;> omega) (HO.out.rg t HTI.out.1) (by rw [List.length_map]; exact HL.out) HLEN.out) ?_; rintro e w5 ⟨rfl, V5, hx5, hst5⟩; have HX5 : Hid _ := hx5; have HST5 : Hid _ := hst5; clear hx5 hst5)
         have hins : insK (L.map Tm.id) t.id = L.map Tm.id := by unfold insK; rw [if_pos (List.mem_map.2 ⟨t, HTI.out.1, rfl⟩)]
         have hx5 := HX5.out; rw [hins] at hx5; have hkeep : ∀ b, b < wr.heap.size → ¬ footW p m V2 b → w5.heap[b]? = wr.heap[b]? := fun b hb hn => (HST5.out.chg.block b (by simp; omega) hn).trans (heap_alloc_old wr _ hb)
         have hnew : ∀ b, b < wr.heap.size → ¬ footW p m V2 b → ¬ footW p m V5 b := fun b hb hn h9 => by
          rcases HST5.out.new b h9 with h8 | h8
          · exact hn h8
          · simp at h8; omega
         go_roundw
         case rel =>
          refine ⟨j + 1, V5, _, _, hlt, by go_num, hx5, (RepP.put HR2.out t (fun u hu => ?_) ?_).congr (fun u => ?_), (HST2.out.trans (Stp.below (al (bR _ _) _) _ _ _)).trans HST5.out, ?_, ?_, ?_, ?_⟩
          · intro e9; have h8 := HR.out.uni u t (HP.out u hu) HTI.out.1 e9; subst h8; rcases hu with h7 | h7
            · exact HRQ.out u HTI.out.2.1 h7
            · exact HTI.out.2.2 h7.1
          · exact lev_le8 hat (by rcases (HO.out.ats t HTI.out.1).2 with h9 | h9 <;> omega)
          · rw [HTK.out]; constructor
            · rintro ((h9 | h9) | rfl)
              · exact .inl h9
              · exact .inr ⟨List.mem_append_left _ h9.1, h9.2⟩
              · exact .inr ⟨by simp, hat⟩
            · rintro (h9 | ⟨h9, h8⟩)
              · exact .inl (.inl h9)
              · rcases List.mem_append.1 h9 with h7 | h7
                · exact .inl (.inr ⟨h7, h8⟩)
                · simp at h7; exact .inr h7
          · rw [HTK.out, List.filter_append]; have : [t].filter (fun t => decide (t.at_ ≤ N')) = [] := by simp; omega
            rw [this, List.append_nil]; exact rowM_kept HOW2.out (fun b hb => hkeep b (World.ownsRow.lt HOW2.out b hb).2 (HDIS.out b hb).2)
          · exact rowM_kept HROW.out (fun b hb => hkeep b (World.ownsRow.lt HROW.out b hb).2 (HFR.out b hb))
          · exact fun b hb => ⟨(HDIS.out b hb).1, hnew b (World.ownsRow.lt HOW2.out b hb).2 (HDIS.out b hb).2⟩
          · exact fun b hb => hnew b (World.ownsRow.lt HROW.out b hb).2 (HFR.out b hb)
         case measure => simp [intOf]; omega
       · have hati : ¬ (N' : Int) < (t.at_ : Int) := by omega
         have HEA : Hid (∀ o1 o2 : Obj, ((wr.alloc o1).alloc o2).heap[wr.heap.size + 1]? = some o2) := fun o1 o2 => by have h9 := heap_alloc_new (wr.alloc o1) o2; rw [World.size_alloc] at h9; exact h9
         have hbd : (catA F r ++ (R.take j).filter (fun t => decide (t.at_ ≤ N'))).length + 1 ≤ 4398046511104 := by
          have h9 : (catA F r ++ (R.take (j + 1)).filter (fun t => decide (t.at_ ≤ N'))).length ≤ L.length := by
           refine Nat.le_trans ?_ (sub_len HND.out (L := L) (fun u hu => ((HDUE.out u).1 hu).1)); rw [List.length_append, List.length_append]; exact Nat.add_le_add_left ((List.take_sublist _ _).filter _).length_le _
          rw [HTK.out, List.filter_append] at h9; have h8 : [t].filter (fun t => decide (t.at_ ≤ N')) = [t] := by simp; omega
          rw [h8] at h9; have := HL.out; simp only [List.length_append, List.length_singleton] at h9 ⊢; omega
         go_wp2_with (at_builtin; refine wp_app1M rfl _ _ rfl w.heap.size _ (catA F r ++ (R.take j).filter (fun t => decide (t.at_ ≤ N'))) t (wr.heap.size + 1) rfl (OwnM.below (xs := catA F r ++ (R.take j).filter (fun t => decide (t.at_ ≤ N'))) HOW2.out (al (al (bR _ _) _) _)) rfl (HEA.out _ _) hbd (by simp; omega) ?_; intro v6 w6 hown6 hg6 hat6; have HO6 : Hid _ := hown6; have HG6 : Hid _ := hg6; have HA6 : Hid _ := hat6; clear hown6 hg6 hat6)
         have hg6 : wr.grownBy w6 (_root_.Go.Value.ownBlock _) := (World.grownBy_alloc wr _ _).trans' ((World.grownBy_alloc _ _ _).trans' HG6.out); have hfoot : ∀ b, footW p m V2 b → w6.heap[b]? = wr.heap[b]? := fun b hf => hg6.block b (Wx.lt HX2.out hf) (fun e => (HDIS.out b e.symm).2 hf)
         go_roundw
         case rel =>
          refine ⟨j + 1, V2, F2, X2, hlt, by go_num, ?_, HR2.out.congr (fun u => ?_), ?_, ?_, ?_, fun b hb => ?_, HFR.out⟩
          · obtain ⟨fl, h1, h2⟩ := HX2.out; exact ⟨fl, h1.kept hfoot, h2⟩
          · rw [HTK.out]; constructor
            · rintro (h9 | ⟨h9, h8⟩)
              · exact .inl h9
              · exact .inr ⟨List.mem_append_left _ h9, h8⟩
            · rintro (h9 | ⟨h9, h8⟩)
              · exact .inl h9
              · rcases List.mem_append.1 h9 with h7 | h7
                · exact .inr ⟨h7, h8⟩
                · simp at h7; rw [h7] at h8; exact absurd h8 hat
          · exact HST2.out.belowEnd ((bR _ _).grown hg6 hszr (fun b e => (World.ownsRow.lt HOW2.out b e).1)) (Nat.le_refl _)
          · have h8 : [t].filter (fun t => decide (t.at_ ≤ N')) = [t] := by simp; omega
            rw [HTK.out, List.filter_append, h8, ← List.append_assoc]; exact HO6.out
          · exact rowM_kept HROW.out (fun b hb => hg6.block b (World.ownsRow.lt HROW.out b hb).2 (fun e => (HDIS.out b e.symm).1 hb))
          · rcases HA6.out b hb with h9 | h9
            · exact HDIS.out b h9
            · have h8 : wr.heap.size < b := by rw [h9]; simp; omega
              refine ⟨fun h7 => ?_, fun h7 => ?_⟩
              · have := (World.ownsRow.lt HROW.out b h7).2; omega
              · have := Wx.lt HX2.out h7; omega
         case measure => simp [intOf]; omega
     · have hjR : j = R.length := by omega
       have hjn : n3 = j := by rw [HN3.out, hjR]
       rw [hjR, List.take_length] at hr2 hown2; have HR2 : Hid _ := hr2; clear hr2 hP; go_wp2; go_ret; exact ⟨_, _, V2, F2, X2, rfl, hown2, HND.out, HDUE.out, hx2, HR2.out.congr HSTAY.out, hst2, fun b hb => (hdis b hb).2⟩
end
end Go.Proofs.YtpakkpahcpgnnaaGreatDoor.Wh
