import Derived.Test.YtgdkiejlggiakacOTxt
namespace Go.Proofs.Ytgdkiejlggiakac
set_option linter.unusedVariables false
set_option linter.unusedSimpArgs false
open Go.RowKit Go.Maps
theorem text_t (kd i : Int) (b : UInt8) (s : Int) (ra : Option Addr) (rl rc : Nat) (cv : Value) (xs : List UInt8) (T : List UInt8) (hT : T = if 0 < xs.length then xs else opRow (opN s) b i) (w : World) (hx : Rd w ra xs) (hl : rl = xs.length) (hnil : ra = none → rc = 0) (hm : xs.length ≤ 140737488351232) :
    Calls Try.prog 47 #[.agg #[.int .i64 kd, .int .i64 i, .int .u8 (b.toNat : Int), .int .i64 s, .slice ra rl rc, cv]] w fun e w' => ∃ v, e = .returned v ∧ Own w' w.heap.size v T ∧ Below w.heap.size w w' := by
  subst hT
  by_cases h0 : 0 < xs.length
  · rw [if_pos h0]
    exact text_raw kd i b s ra rl rc cv xs w hx hl (by omega) hnil hm
  · rw [if_neg h0]
    obtain rfl : rl = 0 := by omega
    exact text_row kd i b s ra rc cv w
theorem Rd.chg0 {w w' : World} {ao : Option Addr} {xs : List UInt8} {F : Nat → Prop} (h : Rd w ao xs) (hc : Chg F w w') (hne : 0 < xs.length → ∀ a, ao = some a → ¬ F a.block) : Rd w' ao xs := fun h0 => Rd.chg h hc (hne h0) h0
theorem Ints.chg0 {w w' : World} {ao : Option Addr} {xs : List Int} {F : Nat → Prop} (h : Ints w ao xs) (hc : Chg F w w') (hne : 0 < xs.length → ∀ a, ao = some a → ¬ F a.block) : Ints w' ao xs := fun j hj => Ints.chg h hc (hne (by omega)) j hj
theorem qn_le {Q Q' : Nat → Prop} {n k : Nat} (h : ∀ b, Q' b → Qn Q n b) (hk : n ≤ k) : ∀ b, Qn Q' k b → Qn Q n b := by
  rintro b (hb | hb)
  · exact h b hb
  · exact .inr (Nat.le_trans hk hb)
/-- what an operation does to a disk -/
def Dst.op (d : Dst) (o : Dop) : Dst := if o.kind = 1 then d.wr o.i o.text else if o.kind = 2 then d.flush else if o.kind = 3 then d.cut o.i else if o.kind = 4 then d.crash o.cs else d
abbrev Q0 (Q : Nat → Prop) (w : World) : Nat → Prop := fun b => Q b ∧ b < w.heap.size
theorem q0_le (Q : Nat → Prop) (w : World) : ∀ b, Q0 Q w b → Qn Q w.heap.size b := fun _ hb => .inl hb.1
section
variable {p rp c : Nat} {d : Dst} {Q : Nat → Prop}
set_option maxRecDepth 20000
set_option maxHeartbeats 1600000
theorem acts_flush (i : Int) (b : UInt8) (s : Int) (rv cv : Value) (w : World) (h : Bo w p rp d d c Q) :
    Calls Try.prog 35 #[.agg #[.int .i64 2, .int .i64 i, .int .u8 (b.toNat : Int), .int .i64 s, rv, cv], .pointer (some ⟨p, 0, none⟩), .pointer (some ⟨rp, 0, none⟩)] w fun e w' => e = .returned (.bool true) ∧ Bo w' p rp d.flush d.flush c (Qn Q w.heap.size) ∧ Chg Q w w' := by
  obtain ⟨X, hX⟩ : ∃ X : World, X = w.alloc (.cells #[.int .i64 2, .int .i64 i, .int .u8 (b.toNat : Int), .int .i64 s, rv, cv] 77) := ⟨_, rfl⟩
  have hXb : Below w.heap.size w X := by rw [hX]; exact al (Below.refl _ _) _
  have HXS : Hid (w.heap.size ≤ X.heap.size) := hXb.size
  have HCX : Hid (Chg Q w X) := Chg.of_below hXb
  have HB : Hid (Bo X p rp d d c (Q0 Q w)) := h.here.below hXb
  have HFEW : Hid _ := h.few.2.1
  obtain ⟨E, hE⟩ : ∃ E : Int, E = if d.can then 0 else 5 := ⟨_, rfl⟩
  have HF1 : Hid _ := Bo.flush HB.out
  rw [← hE] at HF1
  have HE : Hid _ := hE
  clear hXb h hE
  go_enter Try.func35, Try.ntmps35
  go_wp2_with fail
  rw [← hX]
  clear hX
  refine Calls.mono HF1.out ?_
  rintro e w1 ⟨rfl, hb1, hc1⟩
  have HF2 : Hid _ := hb1.rflush HFEW.out
  rw [← HE.out] at HF2
  have HC1 : Hid (Chg Q w w1) := Chg.trans HCX.out hc1 (fun b hb => .inl hb.1)
  clear hb1 hc1 HF1 HB HCX HE
  go_wp2_with fail
  refine Calls.mono HF2.out ?_
  rintro e w2 ⟨rfl, hb2, hc2⟩
  have HB2 : Hid _ := hb2
  have HC2 : Hid (Chg Q w w2) := Chg.trans HC1.out hc2 (qn_le (q0_le Q w) HXS.out)
  have HS1 : Hid (w.heap.size ≤ w1.heap.size) := Chg.size HC1.out
  clear hb2 hc2 HF2
  go_wp2
  go_ret
  exact ⟨by first | rfl | simp, Bo.mono HB2.out (qn_le (qn_le (q0_le Q w) HXS.out) HS1.out), HC2.out⟩
theorem acts_cut (i : Int) (hi : i ≤ 9223372036854775807) (b : UInt8) (s : Int) (rv cv : Value) (w : World) (h : Bo w p rp d d c Q) :
    Calls Try.prog 35 #[.agg #[.int .i64 3, .int .i64 i, .int .u8 (b.toNat : Int), .int .i64 s, rv, cv], .pointer (some ⟨p, 0, none⟩), .pointer (some ⟨rp, 0, none⟩)] w fun e w' => e = .returned (.bool true) ∧ Bo w' p rp (d.cut i) (d.cut i) c (Qn Q w.heap.size) ∧ Chg Q w w' := by
  obtain ⟨X, hX⟩ : ∃ X : World, X = w.alloc (.cells #[.int .i64 3, .int .i64 i, .int .u8 (b.toNat : Int), .int .i64 s, rv, cv] 77) := ⟨_, rfl⟩
  have hXr : X.heap[w.heap.size]? = some (.cells #[.int .i64 3, .int .i64 i, .int .u8 (b.toNat : Int), .int .i64 s, rv, cv] 77 (0, 0)) := by rw [hX]; exact heap_alloc_new w _
  have hXb : Below w.heap.size w X := by rw [hX]; exact al (Below.refl _ _) _
  have HXS : Hid (w.heap.size ≤ X.heap.size) := hXb.size
  have HCX : Hid (Chg Q w X) := Chg.of_below hXb
  have HB : Hid (Bo X p rp d d c (Q0 Q w)) := h.here.below hXb
  have HF1 : Hid _ := Bo.cut HB.out i hi
  have x1 : X.cell? ⟨w.heap.size, 1, none⟩ = some (.int .i64 i) := by rw [cell_of_row _ _ 1 _ _ _ hXr]; rfl
  have HX1 : Hid _ := x1
  clear hXb h hXr x1
  go_enter Try.func35, Try.ntmps35
  go_wp2_with fail
  rw [← hX]
  clear hX
  refine Calls.mono HF1.out ?_
  rintro e w1 ⟨rfl, hb1, hc1⟩
  have HF2 : Hid _ := hb1.rcut i hi
  have x1 : w1.cell? ⟨w.heap.size, 1, none⟩ = some (.int .i64 i) := (World.cell?_of_block (hc1.block w.heap.size (World.block_lt_of_cell? X _ HX1.out) (fun hf => Nat.lt_irrefl _ hf.2))).trans HX1.out
  have HC1 : Hid (Chg Q w w1) := Chg.trans HCX.out hc1 (fun b hb => .inl hb.1)
  clear hb1 hc1 HF1 HB HCX
  go_wp2_with fail
  refine Calls.mono HF2.out ?_
  rintro e w2 ⟨rfl, hb2, hc2⟩
  have HB2 : Hid _ := hb2
  have HC2 : Hid (Chg Q w w2) := Chg.trans HC1.out hc2 (qn_le (q0_le Q w) HXS.out)
  have HS1 : Hid (w.heap.size ≤ w1.heap.size) := Chg.size HC1.out
  clear hb2 hc2 HF2
  go_wp2
  go_ret
  exact ⟨rfl, Bo.mono HB2.out (qn_le (qn_le (q0_le Q w) HXS.out) HS1.out), HC2.out⟩
theorem acts_none (kd : Int) (hk : kd ≠ 1 ∧ kd ≠ 2 ∧ kd ≠ 3 ∧ kd ≠ 4) (i : Int) (b : UInt8) (s : Int) (rv cv : Value) (w : World) (h : Bo w p rp d d c Q) :
    Calls Try.prog 35 #[.agg #[.int .i64 kd, .int .i64 i, .int .u8 (b.toNat : Int), .int .i64 s, rv, cv], .pointer (some ⟨p, 0, none⟩), .pointer (some ⟨rp, 0, none⟩)] w fun e w' => e = .returned (.bool true) ∧ Bo w' p rp d d c (Qn Q w.heap.size) ∧ Chg Q w w' := by
  obtain ⟨k1, k2, k3, k4⟩ := hk
  have b1 : (kd == 1) = false := by simpa using k1
  have b2 : (kd == 2) = false := by simpa using k2
  have b3 : (kd == 3) = false := by simpa using k3
  have b4 : (kd == 4) = false := by simpa using k4
  have H : Hid _ := h
  clear h k1 k2 k3 k4
  go_enter Try.func35, Try.ntmps35
  go_wp2
  go_ret
  exact ⟨rfl, (Bo.below H.out (al (Below.refl _ _) _)).mono (fun b hb => .inl hb), Chg.of_below (al (Below.refl _ _) _)⟩
end
end Go.Proofs.Ytgdkiejlggiakac
