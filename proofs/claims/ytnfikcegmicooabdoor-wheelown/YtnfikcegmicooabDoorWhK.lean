import Derived.Test.YtnfikcegmicooabDoorWhJ
import Derived.Deep.RegionWith
namespace Go.Proofs.YtnfikcegmicooabDoor
set_option linter.unusedVariables false
set_option linter.unusedSimpArgs false
open Go.RowKit Go.Maps
def putF (F : Nat → Nat → List Tm) (N : Nat) (t : Tm) : Nat → Nat → List Tm := if lev t.at_ N < 8 then upd2 F (lev t.at_ N) (slt t.at_ (lev t.at_ N)) (F (lev t.at_ N) (slt t.at_ (lev t.at_ N)) ++ [t]) else F
def putPl (F : Nat → Nat → List Tm) (N : Nat) (t : Tm) : Pl := ⟨lev t.at_ N, slt t.at_ (lev t.at_ N), if lev t.at_ N < 8 then (F (lev t.at_ N) (slt t.at_ (lev t.at_ N))).length else 0⟩
theorem lev_le8 {a n : Nat} (h : n < a) (ha : a ≤ mxN + 1) : lev a n ≤ 8 := by
  have ha' : a ≤ 281474976710656 := ha
  by_cases h1 : a ≤ mxN
  · exact Nat.le_of_lt (lev_lt8 h h1)
  · have h0 : a ^^^ n ≠ 0 := fun e => by have := xor_zero e; omega
    have hlt : a ^^^ n < 2 ^ 49 := Nat.xor_lt_two_pow (by omega) (by omega)
    have hlg : (a ^^^ n).log2 < 49 := (Nat.log2_lt h0).2 hlt
    unfold lev
    omega
section
variable {w w' : World} {p m N S : Nat} {F : Nat → Nat → List Tm} {V : Nat → Nat → Value} {fl : Nat → Nat} {K : List Int} {X : Int → Pl}
theorem add_q (h : Wx w p m N S F K X V) (k s q : Nat) (hk : k < 8) (hs : s < 64) (hq : q = 2 + 65 * k) (t : Tm) (hl : (F k s).length ≤ 4398046511104) :
    Calls Tryd.prog 44 #[.pointer (some ⟨p, q, none⟩), .int .i64 (s : Int), tma t] w fun e w' => e = .returned (.int .i64 ((F k s).length : Int)) ∧ ∃ V', Wx w' p m N S (upd2 F k s (F k s ++ [t])) K X V' ∧ Stp w w' p m V V' := by
  subst hq
  exact add_w h k s hk hs t hl
theorem remove_q (h : Wx w p m N S F K X V) (k s i q : Nat) (hk : k < 8) (hs : s < 64) (hq : q = 2 + 65 * k) (hi : i < (F k s).length) :
    Calls Tryd.prog 57 #[.pointer (some ⟨p, q, none⟩), .int .i64 (s : Int), .int .i64 (i : Int)] w fun e w' => (∃ t, e = .returned (.tuple #[tma t, .bool (decide (i < (F k s).length - 1))]) ∧ (i < (F k s).length - 1 → t = (F k s).getD ((F k s).length - 1) ⟨0, 0, 0⟩)) ∧ ∃ V', Wx w' p m N S (upd2 F k s (remL (F k s) i)) K X V' ∧ Stp w w' p m V V' := by
  subst hq
  exact remove_w h k s i hk hs hi
theorem Whl.mapped {K' : List Int} {X' : Int → Pl} (h : Whl w p m N S F V fl K X) (hg : w.grownBy w' (some m)) (hm : MapW w' m K' X') : Whl w' p m N S F V fl K' X' := by
  obtain ⟨C, h1, h2⟩ := h.blk
  refine ⟨⟨C, (hg.block p (h.lt (.inl rfl)) (fun e => h.pm (Option.some.inj e))).trans h1, h2⟩, fun k s hk hs => rowM_kept (h.rows k s hk hs) (fun b hb => hg.block b (h.lt (.inr (.inr ⟨k, s, hk, hs, hb⟩))) (fun e => h.mV hk hs (hb.trans e))), h.apart, hm, h.fw⟩
theorem Stp.mapped (hg : w.grownBy w' (some m)) : Stp w w' p m V V := ⟨Chg.of_grown hg (fun b e => .inr (.inl (Option.some.inj e).symm)), fun _ h => .inl h⟩
set_option maxRecDepth 20000 in
set_option maxHeartbeats 1600000 in
theorem put_w (h : Wx w p m N S F K X V) (t : Tm) (hN : N < t.at_) (ha : t.at_ ≤ mxN + 1) (hid : inI t.id) (hK : K.length ≤ 4398046511104) (hF : ∀ k s, k < 8 → s < 64 → (F k s).length ≤ 4398046511104) :
    Calls Tryd.prog 36 #[.pointer (some ⟨p, 0, none⟩), tma t] w fun e w' => e = .returned (.tuple #[]) ∧ ∃ V', Wx w' p m N S (putF F N t) (insK K t.id) (updI X t.id (putPl F N t)) V' ∧ Stp w w' p m V V' := by
  obtain ⟨k, hk⟩ : ∃ k, k = lev t.at_ N := ⟨_, rfl⟩
  obtain ⟨s, hs⟩ : ∃ s, s = slt t.at_ k := ⟨_, rfl⟩
  have hsl : s < 64 := by rw [hs]; exact slt_lt _ _
  have hk8 : k ≤ 8 := by rw [hk]; exact lev_le8 hN ha
  have HST : Hid (∀ u : World, Calls Tryd.prog 38 #[.int .u64 (t.at_ : Int), .int .u64 (N : Int)] u fun e w' => e = .returned (.tuple #[.int .i64 (k : Int), .int .i64 (s : Int)]) ∧ ∃ n, w' = u.drewN n) := fun u => by
    have h9 := stand_t t.at_ N hN ha u
    rw [← hk, ← hs] at h9
    exact h9
  have hpl := Wx.lt h (.inl rfl : footW p m V p)
  have hcN : w.cell? ⟨p, 0, none⟩ = some (.int .u64 (N : Int)) := by obtain ⟨fl, h7, -⟩ := h; exact h7.cN
  have HX : Hid _ := h
  have HK : Hid _ := hk
  have HS : Hid _ := hs
  have HF : Hid _ := hF
  clear h hk hs hF hN ha
  go_enter Tryd.func36, Tryd.ntmps36
  go_wp2
  go_quiet ((go_at_call 38; exact Calls.quiet_of (HST.out _)))
  by_cases hk7 : k < 8
  · have hki : (k : Int) < 8 := by omega
    go_wp2
    have hb1 : Below w.heap.size w (((w.alloc (Obj.cells #[.int .i64 t.id, .int .u64 (t.at_ : Int), .int .u64 (t.ord : Int)] tTm)).drewN nq).alloc (Obj.cells #[.int .i64 (k : Int), .int .i64 (s : Int), .int .i64 0] tPl)) := by
      rw [alloc_drewN]
      exact (al (al (Below.refl _ w) _) _).trans (Drw.below ⟨nq, rfl⟩ _)
    obtain ⟨w2, hw2⟩ : ∃ w2, w2 = (((w.alloc (Obj.cells #[.int .i64 t.id, .int .u64 (t.at_ : Int), .int .u64 (t.ord : Int)] tTm)).drewN nq).alloc (Obj.cells #[.int .i64 (k : Int), .int .i64 (s : Int), .int .i64 0] tPl)) := ⟨_, rfl⟩
    have hA : w2.heap[w.heap.size]? = some (.cells #[.int .i64 t.id, .int .u64 (t.at_ : Int), .int .u64 (t.ord : Int)] tTm (0, 0)) := by
      rw [hw2, alloc_drewN]
      exact (heap_alloc_old (w.alloc (Obj.cells #[.int .i64 t.id, .int .u64 (t.at_ : Int), .int .u64 (t.ord : Int)] tTm)) _ (by simp)).trans (heap_alloc_new w _)
    have hB : w2.heap[w.heap.size + 1]? = some (.cells #[.int .i64 (k : Int), .int .i64 (s : Int), .int .i64 0] tPl (0, 0)) := by
      rw [hw2, alloc_drewN]
      have := heap_alloc_new (w.alloc (Obj.cells #[.int .i64 t.id, .int .u64 (t.at_ : Int), .int .u64 (t.ord : Int)] tTm)) (Obj.cells #[.int .i64 (k : Int), .int .i64 (s : Int), .int .i64 0] tPl)
      simpa using this
    rw [← hw2] at hb1
    rw [← hw2]
    clear hw2
    obtain ⟨P, hP⟩ : ∃ P, P = w.heap.size := ⟨_, rfl⟩
    rw [← hP] at hA hB ⊢
    have HP : Hid _ := hP
    have HB1 : Hid _ := hb1
    have HA2 : Hid _ := hA
    have HB2 : Hid _ := hB
    obtain ⟨r0, r1, r2⟩ : w2.cell? ⟨P, 0, none⟩ = some (.int .i64 t.id) ∧ w2.cell? ⟨P, 1, none⟩ = some (.int .u64 (t.at_ : Int)) ∧ w2.cell? ⟨P, 2, none⟩ = some (.int .u64 (t.ord : Int)) := ⟨by rw [cell_of_row _ _ _ _ _ _ hA]; rfl, by rw [cell_of_row _ _ _ _ _ _ hA]; rfl, by rw [cell_of_row _ _ _ _ _ _ hA]; rfl⟩
    clear hA hB hb1 hP
    go_region_with (go_at_call 44; refine Calls.mono (add_q (Wx.below HX.out HB1.out.drew) k s _ hk7 hsl (by omega) t (HF.out k s hk7 hsl)) ?_; rintro e w4 ⟨rfl, V4, hx4, hst4⟩; have hA4 := (hst4.chg.block P (Array.getElem?_eq_some_iff.1 HA2.out).1 (fun h9 => Nat.lt_irrefl _ (HP.out ▸ Wx.lt HX.out h9))).trans HA2.out; have hB4 := (hst4.chg.block (P + 1) (Array.getElem?_eq_some_iff.1 HB2.out).1 (fun h9 => Nat.lt_irrefl _ (Nat.lt_of_succ_lt (HP.out ▸ Wx.lt HX.out h9)))).trans HB2.out; obtain ⟨s0, s1, s2, g2⟩ : w4.cell? ⟨P + 1, 0, none⟩ = some (.int .i64 (k : Int)) ∧ w4.cell? ⟨P + 1, 1, none⟩ = some (.int .i64 (s : Int)) ∧ w4.cell? ⟨P + 1, 2, none⟩ = some (.int .i64 0) ∧ w4.frozen? ⟨P + 1, 2, none⟩ = false := ⟨by rw [cell_of_row _ _ _ _ _ _ hB4]; rfl, by rw [cell_of_row _ _ _ _ _ _ hB4]; rfl, by rw [cell_of_row _ _ _ _ _ _ hB4]; rfl, by simp [World.frozen?, hB4]⟩; have HA4 : Hid _ := hA4; have HB4 : Hid _ := hB4; have HX4 : Hid _ := hx4; have HS4 : Hid _ := hst4; clear hA4 hB4 hx4 hst4)
    obtain ⟨w5, hw5⟩ : ∃ w5, w5 = w4.setCell ⟨P + 1, 2, none⟩ (.int .i64 ((F k s).length : Int)) := ⟨_, rfl⟩
    have hnf : ¬ footW p m V4 (P + 1) := fun h9 => by
      rcases HS4.out.new _ h9 with h8 | h8
      · have h7 := Wx.lt HX.out h8
        have := HP.out
        omega
      · have h7 := (Array.getElem?_eq_some_iff.1 HB2.out).1
        have : w2.drew.heap.size = w2.heap.size := rfl
        omega
    have hx5 : Wx w5.drew p m N S (upd2 F k s (F k s ++ [t])) K X V4 := by
      obtain ⟨fl, h1, h2, hz⟩ := HX4.out
      refine ⟨fl, h1.kept (fun b hf => ?_), h2, hz⟩
      rw [hw5]
      exact heap_setCell_other _ _ _ _ (fun e => hnf (by have e' : b = P + 1 := e; rw [← e']; exact hf))
    have hA5 : w5.heap[P]? = some (.cells #[.int .i64 t.id, .int .u64 (t.at_ : Int), .int .u64 (t.ord : Int)] tTm (0, 0)) := by
      rw [hw5]
      exact (heap_setCell_other _ _ _ _ (by simp)).trans HA4.out
    have hB5 : w5.heap[P + 1]? = some (.cells #[.int .i64 (k : Int), .int .i64 (s : Int), .int .i64 ((F k s).length : Int)] tPl (0, 0)) := by
      rw [hw5]
      exact (heap_setCell_same _ _ _ _ _ _ HB4.out).trans rfl
    have r5 : w5.cell? ⟨P, 0, none⟩ = some (.int .i64 t.id) := by rw [cell_of_row _ _ _ _ _ _ hA5]; rfl
    obtain ⟨b0, b1, b2⟩ : w5.cell? ⟨P + 1, 0, none⟩ = some (.int .i64 (k : Int)) ∧ w5.cell? ⟨P + 1, 1, none⟩ = some (.int .i64 (s : Int)) ∧ w5.cell? ⟨P + 1, 2, none⟩ = some (.int .i64 ((F k s).length : Int)) := ⟨by rw [cell_of_row _ _ _ _ _ _ hB5]; rfl, by rw [cell_of_row _ _ _ _ _ _ hB5]; rfl, by rw [cell_of_row _ _ _ _ _ _ hB5]; rfl⟩
    have hst5 : Stp w w5.drew p m V V4 := by
      refine ((Stp.below HB1.out.drew p m V).trans HS4.out).belowEnd (B := P) ?_ (Nat.le_of_eq HP.out.symm)
      rw [hw5]
      exact ((Below.refl _ _).setCell (by simp) _).drew
    rw [← hw5]
    have HX5 : Hid _ := hx5
    have HST5 : Hid _ := hst5
    clear hw5 hA5 hB5 hx5 hst5 r0 r1 r2 s0 s1 s2 g2 hnf
    obtain ⟨fl, h1, h2, hz⟩ := HX5.out
    obtain ⟨w9, hr9, hm9, hg9⟩ := h1.map.put hid ⟨k, s, (F k s).length⟩ hK
    have hcM : w5.cell? ⟨p, 522, none⟩ = some (.map (some m)) := h1.cM
    have H1 : Hid _ := h1
    have H2 : Hid _ := And.intro h2 hz
    have HM9 : Hid _ := hm9
    have HG9 : Hid _ := hg9
    clear h1 h2 hz hm9 hg9
    go_wp2
    go_region
    go_end0
    have e1 : putF F N t = upd2 F k s (F k s ++ [t]) := by unfold putF; rw [← HK.out, ← HS.out, if_pos hk7]
    have e2 : putPl F N t = ⟨k, s, (F k s).length⟩ := by unfold putPl; rw [← HK.out, ← HS.out, if_pos hk7]
    rw [e1, e2]
    exact ⟨rfl, V4, ⟨fl, H1.out.mapped HG9.out HM9.out, H2.out.1, H2.out.2⟩, HST5.out.trans (Stp.mapped HG9.out)⟩
  · obtain rfl : k = 8 := by omega
    go_wp2
    have hb1 : Below w.heap.size w (((w.alloc (Obj.cells #[.int .i64 t.id, .int .u64 (t.at_ : Int), .int .u64 (t.ord : Int)] tTm)).drewN nq).alloc (Obj.cells #[.int .i64 8, .int .i64 (s : Int), .int .i64 0] tPl)).drew := by
      rw [alloc_drewN]
      exact ((al (al (Below.refl _ w) _) _).trans (Drw.below ⟨nq, rfl⟩ _)).drew
    have hX1 := Wx.below HX.out hb1
    obtain ⟨fl, h1, h2, hz⟩ := hX1
    obtain ⟨w9, hr9, hm9, hg9⟩ := h1.map.put hid ⟨8, s, 0⟩ hK
    have hcM := h1.cM
    change (Instr.mapUpdate tMp (.map (some m)) (.int .i64 t.id) (.agg #[.int .i64 8, .int .i64 (s : Int), .int .i64 0])).run Tryd.prog _ = _ at hr9
    go_region
    go_end0
    have hst := (Stp.below hb1 p m V).trans (Stp.mapped hg9)
    have e1 : putF F N t = F := by unfold putF; rw [if_neg (by rw [← HK.out]; omega)]
    have e2 : putPl F N t = ⟨8, s, 0⟩ := by unfold putPl; rw [← HK.out, ← HS.out]; rfl
    rw [e1, e2]
    exact ⟨rfl, V, ⟨fl, h1.mapped hg9 hm9, h2, hz⟩, hst⟩
end
end Go.Proofs.YtnfikcegmicooabDoor
