import Derived.Test.YtgdkiejlggiakacOAct
namespace Go.Proofs.Ytgdkiejlggiakac
set_option linter.unusedVariables false
set_option linter.unusedSimpArgs false
open Go.RowKit Go.Maps
section
variable {p rp c : Nat} {d : Dst} {Q : Nat → Prop}
set_option maxRecDepth 20000
set_option maxHeartbeats 1600000
theorem asks_read (i : Int) (b : UInt8) (s : Int) (rv cv : Value) (w : World) (h : Bo w p rp d d c Q) :
    Calls Try.prog 36 #[.agg #[.int .i64 0, .int .i64 i, .int .u8 (b.toNat : Int), .int .i64 s, rv, cv], .pointer (some ⟨p, 0, none⟩), .pointer (some ⟨rp, 0, none⟩)] w fun e w' => e = .returned (.bool true) ∧ Below w.heap.size w w' := by
  obtain ⟨X, hX⟩ : ∃ X : World, X = w.alloc (.cells #[.int .i64 0, .int .i64 i, .int .u8 (b.toNat : Int), .int .i64 s, rv, cv] 77) := ⟨_, rfl⟩
  have hXr : X.heap[w.heap.size]? = some (.cells #[.int .i64 0, .int .i64 i, .int .u8 (b.toNat : Int), .int .i64 s, rv, cv] 77 (0, 0)) := by rw [hX]; exact heap_alloc_new w _
  have hXb : Below w.heap.size w X := by rw [hX]; exact al (Below.refl _ _) _
  have HXB : Hid _ := hXb
  have HB : Hid (Bo X p rp d d c Q) := h.below hXb
  have HFEW : Hid _ := h.few.2.1
  have HRL : Hid _ := h.rdLen i
  have x1 : X.cell? ⟨w.heap.size, 1, none⟩ = some (.int .i64 i) := by rw [cell_of_row _ _ 1 _ _ _ hXr]; rfl
  have HX1 : Hid _ := x1
  obtain ⟨E, hE⟩ : ∃ E : Int, E = d.rdE i := ⟨_, rfl⟩
  obtain ⟨T, hT⟩ : ∃ T, T = d.rdB i := ⟨_, rfl⟩
  have HF1 : Hid _ := Bo.read HB.out i
  rw [← hE, ← hT] at HF1
  have HF2 : Hid (∀ u, Below X.heap.size X u → Calls Try.prog 53 #[.pointer (some ⟨rp, 0, none⟩), .int .i64 i] u fun e w' => ∃ v, e = .returned (.tuple #[v, .int .i64 E]) ∧ Own w' u.heap.size v T ∧ Below u.heap.size u w') := fun u hu => by rw [hE, hT]; exact Bo.rread (Bo.below HB.out hu) HFEW.out i
  rw [← hT] at HRL
  clear hXb h hXr x1 hE hT
  go_enter Try.func36, Try.ntmps36
  go_wp2_with fail
  rw [← hX]
  clear hX
  refine Calls.mono HF1.out ?_
  rintro e w1 ⟨v1, rfl, ho1, hb1⟩
  have x1 : w1.cell? ⟨w.heap.size, 1, none⟩ = some (.int .i64 i) := (hb1.cell (p := ⟨w.heap.size, 1, none⟩) (World.block_lt_of_cell? X _ HX1.out)).trans HX1.out
  obtain ⟨a1, c1, rfl, -, -, -, hr1, -⟩ := ho1.val
  have HR1 : Hid _ := hr1
  have HB1 : Hid _ := hb1
  have HF2' : Hid _ := HF2.out w1 hb1
  clear ho1 hr1 hb1 HF1 HF2
  go_wp2_with fail
  refine Calls.mono HF2'.out ?_
  rintro e w2 ⟨v2, rfl, ho2, hb2⟩
  obtain ⟨a2, c2, rfl, -, -, -, hr2, -⟩ := ho2.val
  have hbt := byt_t a1 a2 c1 c2 T T w2 (Rd.below HR1.out hb2) hr2 (by have := HRL.out; omega) (by have := HRL.out; omega)
  rw [beq_self_eq_true] at hbt
  have HBT : Hid _ := hbt
  have HB2 : Hid (Below w.heap.size w w2) := below_next HXB.out (below_next HB1.out hb2)
  clear ho2 hr2 hb2 hbt HF2'
  go_wp2_with fail
  refine Calls.mono HBT.out ?_
  rintro e w3 ⟨rfl, hb3⟩
  have HB3 : Hid (Below w.heap.size w w3) := below_next HB2.out hb3
  clear hb3
  go_wp2
  go_ret
  exact ⟨by first | rfl | simp, HB3.out⟩
theorem asks_image (i : Int) (b : UInt8) (s : Int) (rv cv : Value) (w : World) (h : Bo w p rp d d c Q) :
    Calls Try.prog 36 #[.agg #[.int .i64 5, .int .i64 i, .int .u8 (b.toNat : Int), .int .i64 s, rv, cv], .pointer (some ⟨p, 0, none⟩), .pointer (some ⟨rp, 0, none⟩)] w fun e w' => e = .returned (.bool true) ∧ Below w.heap.size w w' := by
  obtain ⟨X, hX⟩ : ∃ X : World, X = w.alloc (.cells #[.int .i64 5, .int .i64 i, .int .u8 (b.toNat : Int), .int .i64 s, rv, cv] 77) := ⟨_, rfl⟩
  have hXb : Below w.heap.size w X := by rw [hX]; exact al (Below.refl _ _) _
  have HXB : Hid _ := hXb
  have HB : Hid (Bo X p rp d d c Q) := h.below hXb
  have HIL : Hid _ := h.imgLen
  obtain ⟨T, hT⟩ : ∃ T, T = img d.S := ⟨_, rfl⟩
  have HF1 : Hid _ := Bo.image HB.out
  rw [← hT] at HF1 HIL
  have HF2 : Hid (∀ u, Below X.heap.size X u → Calls Try.prog 37 #[.pointer (some ⟨rp, 0, none⟩)] u fun e w' => ∃ v, e = .returned v ∧ Own w' u.heap.size v T ∧ Below u.heap.size u w') := fun u hu => by rw [hT]; exact Bo.rimage (Bo.below HB.out hu)
  clear hXb h hT
  go_enter Try.func36, Try.ntmps36
  go_wp2_with fail
  rw [← hX]
  clear hX
  refine Calls.mono HF1.out ?_
  rintro e w1 ⟨v1, rfl, ho1, hb1⟩
  obtain ⟨a1, c1, rfl, -, -, -, hr1, -⟩ := ho1.val
  have HR1 : Hid _ := hr1
  have HB1 : Hid _ := hb1
  have HF2' : Hid _ := HF2.out w1 hb1
  clear ho1 hr1 hb1 HF1 HF2
  go_wp2_with fail
  refine Calls.mono HF2'.out ?_
  rintro e w2 ⟨v2, rfl, ho2, hb2⟩
  obtain ⟨a2, c2, rfl, -, -, -, hr2, -⟩ := ho2.val
  have hbt := byt_t a1 a2 c1 c2 T T w2 (Rd.below HR1.out hb2) hr2 (by have := HIL.out; omega) (by have := HIL.out; omega)
  rw [beq_self_eq_true] at hbt
  have HBT : Hid _ := hbt
  have HB2 : Hid (Below w.heap.size w w2) := below_next HXB.out (below_next HB1.out hb2)
  clear ho2 hr2 hb2 hbt HF2'
  go_wp2_with fail
  refine Calls.mono HBT.out ?_
  rintro e w3 ⟨rfl, hb3⟩
  have HB3 : Hid (Below w.heap.size w w3) := below_next HB2.out hb3
  clear hb3
  go_wp2
  go_ret
  exact ⟨by first | rfl | simp, HB3.out⟩
theorem asks_dirty (i : Int) (b : UInt8) (s : Int) (rv cv : Value) (w : World) (h : Bo w p rp d d c Q) :
    Calls Try.prog 36 #[.agg #[.int .i64 6, .int .i64 i, .int .u8 (b.toNat : Int), .int .i64 s, rv, cv], .pointer (some ⟨p, 0, none⟩), .pointer (some ⟨rp, 0, none⟩)] w fun e w' => e = .returned (.bool true) ∧ Below w.heap.size w w' := by
  obtain ⟨X, hX⟩ : ∃ X : World, X = w.alloc (.cells #[.int .i64 6, .int .i64 i, .int .u8 (b.toNat : Int), .int .i64 s, rv, cv] 77) := ⟨_, rfl⟩
  have hXb : Below w.heap.size w X := by rw [hX]; exact al (Below.refl _ _) _
  have HXB : Hid _ := hXb
  have HB : Hid (Bo X p rp d d c Q) := h.below hXb
  have HFEW : Hid _ := h.few.2.1
  have hdl := dirty_len2 d.S.length d.C
  have hsm := h.few.2.2.1
  obtain ⟨T, hT⟩ : ∃ T, T = dirtyL d.S.length d.C := ⟨_, rfl⟩
  obtain ⟨U, hU⟩ : ∃ U, U = dirtyC d.S.length d.C := ⟨_, rfl⟩
  have HLN : Hid (T.length ≤ 65536 ∧ U.length ≤ 65536) := by unfold Hid; rw [hT, hU]; omega
  have HF1 : Hid _ := Bo.dirty HB.out
  rw [← hT, ← hU] at HF1
  have HF2 : Hid (∀ u, Below X.heap.size X u → Calls Try.prog 54 #[.pointer (some ⟨rp, 0, none⟩)] u fun e w' => ∃ v y, e = .returned (.tuple #[v, y]) ∧ OwnI w' u.heap.size v T ∧ OwnI w' u.heap.size y U ∧ Below u.heap.size u w') := fun u hu => by rw [hT, hU]; exact Bo.rdirty (Bo.below HB.out hu) HFEW.out
  clear hXb h hT hU hdl hsm
  go_enter Try.func36, Try.ntmps36
  go_wp2_with fail
  rw [← hX]
  clear hX
  refine Calls.mono HF1.out ?_
  rintro e w1 ⟨v1, y1, rfl, ho1, hp1, hb1⟩
  obtain ⟨a1, c1, rfl, hr1⟩ := OwnI.ints ho1
  obtain ⟨a3, c3, rfl, hr3⟩ := OwnI.ints hp1
  have HR1 : Hid _ := hr1
  have HR3 : Hid _ := hr3
  have HB1 : Hid _ := hb1
  have HF2' : Hid _ := HF2.out w1 hb1
  clear ho1 hr1 hp1 hr3 hb1 HF1 HF2
  go_wp2_with fail
  refine Calls.mono HF2'.out ?_
  rintro e w2 ⟨v2, y2, rfl, ho2, hp2, hb2⟩
  obtain ⟨a2, c2, rfl, hr2⟩ := OwnI.ints ho2
  obtain ⟨a4, c4, rfl, hr4⟩ := OwnI.ints hp2
  have hbt := ints_t a1 a2 c1 c2 T T w2 (Ints.below HR1.out hb2) hr2 (by have := HLN.out; omega) (by have := HLN.out; omega)
  rw [beq_self_eq_true] at hbt
  have HBT : Hid _ := hbt
  have HR3b : Hid _ := Ints.below HR3.out hb2
  have HR4 : Hid _ := hr4
  have HB2 : Hid (Below w.heap.size w w2) := below_next HXB.out (below_next HB1.out hb2)
  clear ho2 hr2 hb2 hbt HF2' hp2 hr4
  go_wp2_with fail
  refine Calls.mono HBT.out ?_
  rintro e w3 ⟨rfl, hb3⟩
  have hbt := ints_t a3 a4 c3 c4 U U w3 (Ints.below HR3b.out hb3) (Ints.below HR4.out hb3) (by have := HLN.out; omega) (by have := HLN.out; omega)
  rw [beq_self_eq_true] at hbt
  have HBT2 : Hid _ := hbt
  have HB3 : Hid (Below w.heap.size w w3) := below_next HB2.out hb3
  clear hb3 hbt
  go_wp2_with fail
  refine Calls.mono HBT2.out ?_
  rintro e w4 ⟨rfl, hb4⟩
  have HB4 : Hid (Below w.heap.size w w4) := below_next HB3.out hb4
  clear hb4
  go_wp2
  go_ret
  exact ⟨by first | rfl | simp, HB4.out⟩
theorem asks_tells (i : Int) (b : UInt8) (s : Int) (rv cv : Value) (w : World) (h : Bo w p rp d d c Q) :
    Calls Try.prog 36 #[.agg #[.int .i64 7, .int .i64 i, .int .u8 (b.toNat : Int), .int .i64 s, rv, cv], .pointer (some ⟨p, 0, none⟩), .pointer (some ⟨rp, 0, none⟩)] w fun e w' => e = .returned (.bool true) ∧ Below w.heap.size w w' := by
  obtain ⟨X, hX⟩ : ∃ X : World, X = w.alloc (.cells #[.int .i64 7, .int .i64 i, .int .u8 (b.toNat : Int), .int .i64 s, rv, cv] 77) := ⟨_, rfl⟩
  have hXb : Below w.heap.size w X := by rw [hX]; exact al (Below.refl _ _) _
  have HXB : Hid _ := hXb
  have HB : Hid (Bo X p rp d d c Q) := h.below hXb
  have HS1 : Hid _ := Bo.sectors HB.out
  have HS2 : Hid _ := Bo.rsectors HB.out
  have HD1 : Hid _ := Bo.down HB.out
  have HD2 : Hid _ := Bo.rdown HB.out
  obtain ⟨N, hN⟩ : ∃ N : Nat, N = d.S.length := ⟨_, rfl⟩
  obtain ⟨o, ho⟩ : ∃ o : Bool, o = d.off := ⟨_, rfl⟩
  rw [← hN] at HS1 HS2
  rw [← ho] at HD1 HD2
  clear hXb h hN ho
  go_enter Try.func36, Try.ntmps36
  go_wp2_with fail
  rw [← hX]
  clear hX
  refine Calls.mono HS1.out ?_
  rintro e w1 ⟨rfl, hq⟩
  have hq := hq.symm
  subst hq
  go_wp2_with fail
  refine Calls.mono HS2.out ?_
  rintro e w1 ⟨rfl, hq⟩
  have hq := hq.symm
  subst hq
  go_wp2_with fail
  refine Calls.mono HD1.out ?_
  rintro e w1 ⟨rfl, hq⟩
  have hq := hq.symm
  subst hq
  go_wp2_with fail
  refine Calls.mono HD2.out ?_
  rintro e w1 ⟨rfl, hq⟩
  have hq := hq.symm
  subst hq
  go_wp2
  go_ret
  exact ⟨by first | rfl | simp, HXB.out⟩
theorem asks_none (kd : Int) (hk : kd ≠ 0 ∧ kd ≠ 5 ∧ kd ≠ 6 ∧ kd ≠ 7) (i : Int) (b : UInt8) (s : Int) (rv cv : Value) (w : World) (v1 v2 : Value) :
    Calls Try.prog 36 #[.agg #[.int .i64 kd, .int .i64 i, .int .u8 (b.toNat : Int), .int .i64 s, rv, cv], v1, v2] w fun e w' => e = .returned (.bool true) ∧ Below w.heap.size w w' := by
  obtain ⟨k1, k2, k3, k4⟩ := hk
  have b1 : (kd == 0) = false := by simpa using k1
  have b2 : (kd == 5) = false := by simpa using k2
  have b3 : (kd == 6) = false := by simpa using k3
  have b4 : (kd == 7) = false := by simpa using k4
  clear k1 k2 k3 k4
  go_enter Try.func36, Try.ntmps36
  go_wp2
  go_ret
  exact ⟨rfl, al (Below.refl _ _) _⟩
theorem asks_t (kd : Int) (i : Int) (b : UInt8) (s : Int) (rv cv : Value) (w : World) (h : Bo w p rp d d c Q) :
    Calls Try.prog 36 #[.agg #[.int .i64 kd, .int .i64 i, .int .u8 (b.toNat : Int), .int .i64 s, rv, cv], .pointer (some ⟨p, 0, none⟩), .pointer (some ⟨rp, 0, none⟩)] w fun e w' => e = .returned (.bool true) ∧ Below w.heap.size w w' := by
  by_cases h0 : kd = 0
  · subst h0; exact asks_read i b s rv cv w h
  by_cases h5 : kd = 5
  · subst h5; exact asks_image i b s rv cv w h
  by_cases h6 : kd = 6
  · subst h6; exact asks_dirty i b s rv cv w h
  by_cases h7 : kd = 7
  · subst h7; exact asks_tells i b s rv cv w h
  exact asks_none kd ⟨h0, h5, h6, h7⟩ i b s rv cv w _ _
end
end Go.Proofs.Ytgdkiejlggiakac
