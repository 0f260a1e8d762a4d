import Derived.Test.YtkdgjfjcpgiokaaGreatLxA
namespace Go.Proofs.YtkdgjfjcpgiokaaGreat
set_option linter.unusedVariables false
set_option linter.unusedSimpArgs false
open Go.RowKit Go.Maps
def kU1 : Un := oneU 1 1 0 2 [97, 98]
def kU2 : Un := oneU 1 1 1 2 [99]
def kI0 : Ib := newI 2 2
def kI1 : Ib := takeI kI0 kU1
def kI2 : Ib := takeI kI1 kU2
def kI3 : Ib := decI kI2 (1, 1) 1
def kI4 : Ib := takeI kI3 kU1
theorem kA1 : takeA kI0 kU1 = ⟨3, 0, some [[97, 98], []]⟩ := by kernel_rfl
theorem kA2 : takeA kI1 kU2 = ⟨4, 0, some [[97, 98], [99]]⟩ := by kernel_rfl
theorem kE3 : decE kI2 (1, 1) 1 = 0 := by kernel_rfl
theorem kA4 : takeA kI3 kU1 = ⟨5, 1, none⟩ := by kernel_rfl
theorem kE4 : kI4.ep = 1 := by kernel_rfl
theorem kG1 {rs : List Rg} {xs : List UInt8} (h : AnsR ⟨3, 0, some [[97, 98], []]⟩ rs xs) : rs = [(0, 1)] ∧ xs = [] := by
  have h1 : xs = [] ∧ GotIs rs (some [[97, 98], []]) := by
    unfold AnsR at h
    simp only at h
    rw [if_neg (by decide)] at h
    exact h
  refine ⟨GotIs.uniq h1.2 ⟨⟨by simp, by simp⟩, fun i => Iff.rfl⟩, h1.1⟩
theorem kG2 {rs : List Rg} {xs : List UInt8} (h : AnsR ⟨4, 0, some [[97, 98], [99]]⟩ rs xs) : rs = [] ∧ xs = [97, 98, 99] := by
  unfold AnsR at h
  simp only at h
  rw [if_pos (by decide)] at h
  exact h
section
set_option maxRecDepth 20000
set_option maxHeartbeats 3200000
theorem knows_t (w : World) : Calls Tryz.prog 9 #[] w fun e w' => e = .returned (.bool true) ∧ Below w.heap.size w w' := by
  have HNW : Hid (Calls Tryz.prog 14 #[.int .i64 2, .int .i64 2] w _) := new_a 2 2 (by decide) (by decide) (by decide) (by decide) w
  have HO1 : Hid (∀ u : World, Calls Tryz.prog 17 #[.int .u64 1, .int .u64 1, .int .i64 0, .int .i64 2, .string ⟨#[97, 98]⟩] u _) := fun u => one_t 1 1 0 2 [97, 98] u
  have HO2 : Hid (∀ u : World, Calls Tryz.prog 17 #[.int .u64 1, .int .u64 1, .int .i64 1, .int .i64 2, .string ⟨#[99]⟩] u _) := fun u => one_t 1 1 1 2 [99] u
  go_enter Tryz.func9, Tryz.ntmps9
  go_wp2_with fail
  refine Calls.mono HNW.out ?_
  rintro e w1 ⟨p, F, rfl, hI, hF, hb1⟩
  have HI1 : Hid (IbA w1 p 0 kI0 F) := hI
  have HF1 : Hid _ := hF
  have HB1 : Hid _ := hb1
  clear hI hF hb1
  go_wp2_with fail
  refine Calls.mono (HO1.out _) ?_
  rintro e w2 ⟨g, cp, rfl, hrd, hg, hb2⟩
  have HI2 : Hid (IbA w2 p 0 kI0 F) := HI1.out.below hb2
  have HT2 : Hid (Calls _ _ _ w2 _) := take_a HI2.out kU1 (some ⟨g, 0, none⟩) 2 cp none 0 0 rfl rfl hrd (fun _ b hb a ha e9 => by cases ha; have := HI1.out.lt b hb; simp only at e9; omega) (fun h => by cases h) (by decide)
  rw [kA1] at HT2
  have HB2 : Hid (Below w.heap.size w w2) := below_next HB1.out hb2
  clear hrd hg hb2
  go_wp2_with fail
  refine Calls.mono HT2.out ?_
  rintro e w3 ⟨F3, B3, ga, ba, gn, gc, bn, bc, rs, xs, rfl, hA3, hI3, hc3, hf3, hB3⟩
  obtain ⟨rfl, rfl⟩ := kG1 hA3.is_
  obtain ⟨ga', gc', hv1, -, -, -, hrdg, -⟩ := OwnR.val hA3.gr
  obtain ⟨rfl, rfl, rfl⟩ : ga' = ga ∧ gn = 1 ∧ gc' = gc := by simp only [Value.slice.injEq] at hv1; exact ⟨hv1.1.symm, hv1.2.1, hv1.2.2.symm⟩
  have HB3 : Hid (Below w.heap.size w w3) := HB2.out.trans (hc3.below HF1.out HB2.out.size)
  have HF3 : Hid (∀ b, F3 b → w.heap.size ≤ b) := fun b hb => ((hf3 b hb).1).elim (HF1.out b) (fun h => Nat.le_trans HB2.out.size h)
  have HI3 : Hid (IbA w3 p 1 kI1 F3) := hI3
  have HRD3 : Hid (RdR w3 ga' [(0, 1)]) := hrdg
  have HRG : Hid (Calls Tryz.prog 27 #[.slice ga' 1 gc', .slice (some ⟨w3.heap.size + 1, 0, none⟩) 1 1] ((w3.alloc (.cells #[.int .i64 3, .int .i64 0, .slice ga' 1 gc', .slice ba bn bc] 59)).alloc (.cells #[.int .i64 0, .int .i64 1] 81)) _) :=
    rangesI_t ga' (some ⟨w3.heap.size + 1, 0, none⟩) 1 1 gc' 1 [(0, 1)] [(0, 1)] _ rfl rfl ((hrdg.below (al (Below.refl _ _) _)).below (al (Below.refl _ _) _)) (by have h9 := rd_lit1 (w3.alloc (.cells #[.int .i64 3, .int .i64 0, .slice ga' 1 gc', .slice ba bn bc] 59)) (0, 1); rw [World.size_alloc] at h9; exact h9) (by decide) rfl
  clear hA3 hI3 hc3 hf3 hB3 hrdg hv1
  unfold ansV
  go_wp2_with fail
  refine Calls.mono HRG.out ?_
  rintro e w4 ⟨rfl, hb4⟩
  have HB34 : Hid (Below w3.heap.size w3 w4) := (al (al (Below.refl w3.heap.size w3) _) _).trans (hb4.mono (by simp; omega))
  have HI4 : Hid (IbA w4 p 1 kI1 F3) := HI3.out.below HB34.out
  have HB4 : Hid (Below w.heap.size w w4) := below_next HB3.out HB34.out
  clear hb4
  go_wp2_with fail
  refine Calls.mono (HO2.out _) ?_
  rintro e w5 ⟨g5, cp5, rfl, hrd, hg, hb5⟩
  have HI5 : Hid (IbA w5 p 1 kI1 F3) := HI4.out.below hb5
  have HT5 : Hid (Calls _ _ _ w5 _) := take_a HI5.out kU2 (some ⟨g5, 0, none⟩) 1 cp5 none 0 0 rfl rfl hrd (fun _ b hb a ha e9 => by cases ha; have := HI4.out.lt b hb; simp only at e9; omega) (fun h => by cases h) (by decide)
  rw [kA2] at HT5
  have HB5 : Hid (Below w.heap.size w w5) := below_next HB4.out hb5
  clear hrd hg hb5
  go_wp2_with fail
  refine Calls.mono HT5.out ?_
  rintro e w6 ⟨F6, B6, ga6, ba6, gn6, gc6, bn6, bc6, rs6, xs6, rfl, hA6, hI6, hc6, hf6, hB6⟩
  obtain ⟨rfl, rfl⟩ := kG2 hA6.is_
  obtain ⟨ba', bc', hv6, -, -, -, hrd6, -⟩ := Own.val hA6.bl
  obtain ⟨rfl, rfl, rfl⟩ : ba' = ba6 ∧ bn6 = 3 ∧ bc' = bc6 := by simp only [Value.slice.injEq] at hv6; exact ⟨hv6.1.symm, hv6.2.1, hv6.2.2.symm⟩
  have HB6 : Hid (Below w.heap.size w w6) := HB5.out.trans (hc6.below HF3.out HB5.out.size)
  have HF6 : Hid (∀ b, F6 b → w.heap.size ≤ b) := fun b hb => ((hf6 b hb).1).elim (HF3.out b) (fun h => Nat.le_trans HB5.out.size h)
  have HI6 : Hid (IbA w6 p 2 kI2 F6) := hI6
  have hcv : (convert 24 9 (.slice ba' 3 bc')).run Tryz.prog (w6.alloc (.cells #[.int .i64 4, .int .i64 0, .slice ga6 gn6 gc6, .slice ba' 3 bc'] 59)) = .ok (.string ⟨#[97, 98, 99]⟩) _ := conv_rd' (Rd.below hrd6 (al (Below.refl _ _) _)) 3 bc' rfl
  have HDC : Hid (Calls Tryz.prog 28 #[.pointer (some ⟨p, 0, none⟩), .agg #[.int .u64 1, .int .u64 1], .int .i64 1] (w6.alloc (.cells #[.int .i64 4, .int .i64 0, .slice ga6 gn6 gc6, .slice ba' 3 bc'] 59)) _) := dec_a (hI6.below (al (Below.refl _ _) _)) (1, 1) 1 (by decide)
  rw [show decE (takeI kI1 kU2) (1, 1) 1 = 0 from kE3] at HDC
  clear hA6 hI6 hc6 hf6 hB6 hrd6 hv6
  unfold ansV
  go_wp2_with fail
  refine Calls.mono HDC.out ?_
  rintro e w7 ⟨rfl, F7, hI7, hc7, hf7⟩
  have HB66 : Hid (Below w.heap.size w (w6.alloc (.cells #[.int .i64 4, .int .i64 0, .slice ga6 gn6 gc6, .slice ba' 3 bc'] 59))) := al HB6.out _
  have HB7 : Hid (Below w.heap.size w w7) := HB66.out.trans (hc7.below HF6.out HB66.out.size)
  have HF7 : Hid (∀ b, F7 b → w.heap.size ≤ b) := fun b hb => (hf7 b hb).elim (HF6.out b) (fun h => Nat.le_trans HB66.out.size h)
  have HI7 : Hid (IbA w7 p 3 kI3 F7) := hI7
  clear hI7 hc7 hf7
  go_wp2_with fail
  refine Calls.mono (HO1.out _) ?_
  rintro e w8 ⟨g8, cp8, rfl, hrd, hg, hb8⟩
  have HI8 : Hid (IbA w8 p 3 kI3 F7) := HI7.out.below hb8
  have HT8 : Hid (Calls _ _ _ w8 _) := take_a HI8.out kU1 (some ⟨g8, 0, none⟩) 2 cp8 none 0 0 rfl rfl hrd (fun _ b hb a ha e9 => by cases ha; have := HI7.out.lt b hb; simp only at e9; omega) (fun h => by cases h) (by decide)
  rw [kA4] at HT8
  have HB8 : Hid (Below w.heap.size w w8) := below_next HB7.out hb8
  clear hrd hg hb8
  go_wp2_with fail
  refine Calls.mono HT8.out ?_
  rintro e w9 ⟨F9, B9, ga9, ba9, gn9, gc9, bn9, bc9, rs9, xs9, rfl, hA9, hI9, hc9, hf9, hB9⟩
  have HB9 : Hid (Below w.heap.size w w9) := HB8.out.trans (hc9.below HF7.out HB8.out.size)
  have HEP : Hid (Calls Tryz.prog 23 #[.pointer (some ⟨p, 0, none⟩)] (w9.alloc (.cells #[.int .i64 5, .int .i64 1, .slice ga9 gn9 gc9, .slice ba9 bn9 bc9] 59)) _) := epoch_a (hI9.below (al (Below.refl _ _) _))
  rw [show (takeI kI3 kU1).ep = 1 from kE4] at HEP
  clear hA9 hI9 hc9 hf9 hB9
  unfold ansV
  go_wp2_with fail
  refine Calls.mono HEP.out ?_
  rintro e w10 ⟨rfl, hq⟩
  have hq := hq.symm
  subst hq
  go_wp2
  go_ret
  exact ⟨rfl, al HB9.out _⟩
end
end Go.Proofs.YtkdgjfjcpgiokaaGreat
namespace Go.Proofs.YtkdgjfjcpgiokaaGreat
set_option linter.unusedVariables false
set_option linter.unusedSimpArgs false
open Go.RowKit Go.Maps
/-- a unit with its memory -/
structure UnM where
  u : Un
  da : Option Addr
  dn : Nat
  dc : Nat
  ga : Option Addr
  gn : Nat
  gc : Nat
abbrev UnM.c (x : UnM) : Array Value := unC x.u.kind x.u.ep x.u.se x.u.path x.u.idx x.u.cnt x.da x.dn x.dc x.u.code x.ga x.gn x.gc
structure UnOk (w : World) (x : UnM) : Prop where
  hn : x.dn = x.u.data.length
  hg : x.gn = x.u.got.length
  rd : Rd w x.da x.u.data
  dl : x.u.data.length ≤ x.dc
  dz : x.da = none → x.dc = 0
  db : x.dc ≤ 140737488351232
  rg : RdR w x.ga x.u.got
  gl : x.u.got.length ≤ x.gc
  gz : x.ga = none → x.gc = 0
  gb : x.gc ≤ 8796093021952
  ee : ∃ n : Nat, x.u.ep = (n : Int) ∧ n < 18446744073709551616
  es : ∃ n : Nat, x.u.se = (n : Int) ∧ n < 18446744073709551616
theorem UnOk.below {w w' : World} {x : UnM} (h : UnOk w x) (hb : Below w.heap.size w w') : UnOk w' x := ⟨h.hn, h.hg, Rd.below h.rd hb, h.dl, h.dz, h.db, h.rg.below hb, h.gl, h.gz, h.gb, h.ee, h.es⟩
end Go.Proofs.YtkdgjfjcpgiokaaGreat
namespace Go.Proofs.YtkdgjfjcpgiokaaGreat
set_option linter.unusedVariables false
set_option linter.unusedSimpArgs false
open Go.RowKit Go.Maps
/-- one call of a script -/
structure OpX where
  kd : Int
  x : UnM
  e : Nat
  n : Nat
  cd : Int
abbrev OpX.s (y : OpX) : Ss := (y.e, y.n)
abbrev tOpX : TypeId := 69
abbrev OpX.c (y : OpX) : Array Value := #[.int .i64 y.kd, .int .i64 y.x.u.kind, .int .u64 y.x.u.ep, .int .u64 y.x.u.se, .int .i64 y.x.u.path, .int .i64 y.x.u.idx, .int .i64 y.x.u.cnt, .slice y.x.da y.x.dn y.x.dc, .int .i64 y.x.u.code, .slice y.x.ga y.x.gn y.x.gc, .int .u64 (y.e : Int), .int .u64 (y.n : Int), .int .i64 y.cd]
structure OpOk (w : World) (y : OpX) : Prop where
  un : UnOk w y.x
  s : inS y.s
theorem OpOk.below {w w' : World} {y : OpX} (h : OpOk w y) (hb : Below w.heap.size w w') : OpOk w' y := ⟨h.un.below hb, h.s⟩
/-- a script that can be read -/
def RdX (w : World) (a : Option Addr) (xs : List OpX) : Prop := ∀ j (hj : j < xs.length), ∃ b o, a = some ⟨b, o, none⟩ ∧ w.rangeAt b (o + j * 13) (xs[j]).c.toList ∧ OpOk w xs[j]
theorem RdX.below {w w' : World} {a : Option Addr} {xs : List OpX} (h : RdX w a xs) (hb : Below w.heap.size w w') : RdX w' a xs := fun j hj => by
  obtain ⟨b, o, h1, h2, h3⟩ := h j hj
  exact ⟨b, o, h1, rangeAt_below h2 hb, h3.below hb⟩
theorem sizeOpX : (Tryz.prog.info? tOpX).map (fun x => x.size) = some 13 := by kernel_rfl
set_option maxRecDepth 20000 in
theorem load_opX (u : World) (b o : Nat) (y : OpX) (h : u.rangeAt b o y.c.toList) : (Instr.loadAt tOpX (.pointer (some ⟨b, o, none⟩))).run Tryz.prog u = .ok (.agg y.c) u :=
  run_loadAt_mid u b o _ y.c.toList _ h Tryz.underlying69 rfl sizeOpX
/-- what a call leaves and answers -/
def doI (I : Ib) (y : OpX) : Ib := if y.kd = 1 then takeI I y.x.u else if y.kd = 2 then decI I y.s y.cd else if y.kd = 3 then dropI I y.s else I
def doA (I : Ib) (y : OpX) : Ans := if y.kd = 1 then takeA I y.x.u else ⟨0, 0, none⟩
def doE (I : Ib) (y : OpX) : Int := if y.kd = 2 then decE I y.s y.cd else 0
def DoP (w : World) (p N : Nat) (F : Nat → Prop) (I' : Ib) (a : Ans) (er : Int) (e : Ending) (w' : World) : Prop :=
  ∃ F' ga ba gn gc bn bc, e = .returned (.tuple #[ansV a ga ba gn gc bn bc, .int .i64 er]) ∧ IbA w' p (N + 1) I' F' ∧ Chg F w w' ∧ ∀ b, F' b → F b ∨ w.heap.size ≤ b
theorem opCell {u : World} {P : Nat} {y : OpX} (h : u.heap[P]? = some (.cells y.c tOpX (0, 0))) : u.cell? ⟨P, 0, none⟩ = some (.int .i64 y.kd) ∧ u.cell? ⟨P, 10, none⟩ = some (.int .u64 (y.e : Int)) ∧ u.cell? ⟨P, 11, none⟩ = some (.int .u64 (y.n : Int)) ∧ u.cell? ⟨P, 12, none⟩ = some (.int .i64 y.cd) ∧ u.rangeAt P 1 y.x.c.toList := by
  refine ⟨by rw [cell_of_row _ _ _ _ _ _ h]; rfl, by rw [cell_of_row _ _ _ _ _ _ h]; rfl, by rw [cell_of_row _ _ _ _ _ _ h]; rfl, by rw [cell_of_row _ _ _ _ _ _ h]; rfl, fun j v hj => ?_⟩
  rw [cell_of_row _ _ _ _ _ _ h]
  match j, hj with
  | 0, hj => exact hj
  | 1, hj => exact hj
  | 2, hj => exact hj
  | 3, hj => exact hj
  | 4, hj => exact hj
  | 5, hj => exact hj
  | 6, hj => exact hj
  | 7, hj => exact hj
  | 8, hj => exact hj
  | j + 9, hj => simp at hj
theorem sizeUnX : (Tryz.prog.info? tUn).map (fun x => x.size) = some 9 := by kernel_rfl
set_option maxRecDepth 20000 in
theorem load_unX (u : World) (b o : Nat) (x : UnM) (h : u.rangeAt b o x.c.toList) : (Instr.loadAt tUn (.pointer (some ⟨b, o, none⟩))).run Tryz.prog u = .ok (.agg x.c) u :=
  run_loadAt_mid u b o _ x.c.toList _ h Tryz.underlying27 rfl sizeUnX
section
variable {w w' : World} {p N : Nat} {I : Ib} {F : Nat → Prop}
set_option maxRecDepth 20000
set_option maxHeartbeats 3200000
/-- the data of a unit that was there ahead of the inbox -/
theorem UnOk.far {w0 : World} {x : UnM} (h : UnOk w0 x) (hF : ∀ b, F b → w0.heap.size ≤ b) : 0 < x.u.data.length → ∀ b, F b → ∀ a, x.da = some a → a.block ≠ b := fun h0 b hb a ha e => by
  obtain ⟨b', o, e1, h1⟩ := h.rd h0
  rw [e1] at ha
  cases ha
  have h2 : b' < w0.heap.size := World.block_lt_of_cell? w0 _ (h1 0 h0)
  have h3 := hF b hb
  have h4 : b' = b := e
  omega
theorem does_1 (h : IbA w p N I F) (x : UnM) (ye yn : Nat) (ycd : Int) (w0 : World) (hy : UnOk w0 x) (hb : Below w0.heap.size w0 w) (hF : ∀ b, F b → w0.heap.size ≤ b) (hN : N < 4611686018427387904) :
    Calls Tryz.prog 21 #[.pointer (some ⟨p, 0, none⟩), .agg (OpX.mk 1 x ye yn ycd).c] w fun e w' => DoP w p N F (takeI I x.u) (takeA I x.u) 0 e w' := by
  obtain ⟨w2, hw2⟩ : ∃ w2, w2 = (w.alloc (.cells (OpX.mk 1 x ye yn ycd).c tOpX)).alloc (.cells #[.int .i64 0, .int .i64 0, .slice none 0 0, .slice none 0 0] 59) := ⟨_, rfl⟩
  have hb2 : Below w.heap.size w w2 := by rw [hw2]; exact al (al (Below.refl _ _) _) _
  obtain ⟨P, hP⟩ : ∃ P, P = w.heap.size := ⟨_, rfl⟩
  have hA : w2.heap[P + 1]? = some (.cells #[.int .i64 0, .int .i64 0, .slice none 0 0, .slice none 0 0] 59 (0, 0)) := by
    rw [hw2, hP]
    have h9 := heap_alloc_new (w.alloc (.cells (OpX.mk 1 x ye yn ycd).c tOpX)) (.cells #[.int .i64 0, .int .i64 0, .slice none 0 0, .slice none 0 0] 59)
    rw [World.size_alloc] at h9
    exact h9
  have hxb : UnOk w2 x := (hy.below (hb.trans (hb2.mono hb.size)))
  have HTK : Hid (Calls _ _ _ w2 _) := take_a (h.below hb2) x.u x.da x.dn x.dc x.ga x.gn x.gc hxb.hn hxb.hg hxb.rd (hy.far hF) hxb.dz hN
  have HI : Hid _ := h
  have HA : Hid _ := hA
  have HB2 : Hid _ := hb2
  have HP : Hid (P = w.heap.size) := hP
  obtain ⟨a, ha⟩ : ∃ a, a = takeA I x.u := ⟨_, rfl⟩
  rw [← ha] at HTK ⊢
  obtain ⟨⟨k, e, se, pa, i, c, xs, cd, l⟩, da, dn, dc, ga, gn, gc⟩ := x
  have HW2 : Hid (w2 = _) := hw2
  clear h hb2 hA hxb hw2 hP hy hb hF ha
  go_enter Tryz.func21, Tryz.ntmps21
  go_wp2_with fail
  rw [← HW2.out]
  refine Calls.mono HTK.out ?_
  rintro e3 w3 ⟨F', B, ga', ba', gn', gc', bn', bc', rs, ys, rfl, hA3, hI3, hc3, hf3, hB3⟩
  have hA4 : w3.heap[P + 1]? = _ := (hc3.block (P + 1) (Array.getElem?_eq_some_iff.1 HA.out).1 (fun h9 => by have := HI.out.lt _ h9; have := HP.out; omega)).trans HA.out
  rw [HP.out] at hA4
  obtain ⟨b0, b1, b2, b3, f0, f1, f2, f3⟩ := ansCell hA4
  unfold ansV
  obtain ⟨ast, hast⟩ : ∃ ast, ast = a.st := ⟨_, rfl⟩
  obtain ⟨acd, hacd⟩ : ∃ acd, acd = a.cd := ⟨_, rfl⟩
  rw [← hast, ← hacd]
  have HAS : Hid (ast = a.st ∧ acd = a.cd) := ⟨hast, hacd⟩
  have HI3 : Hid _ := hI3
  have HC3 : Hid (Chg F w w3) := (Chg.of_below HB2.out).trans hc3 (fun b hb => .inl hb)
  have HF3 : Hid (∀ b, F' b → F b ∨ w.heap.size ≤ b) := fun b hb => ((hf3 b hb).1).imp id (fun h9 => Nat.le_trans HB2.out.size h9)
  have HF4 : Hid (∀ b, F' b → b ≠ w.heap.size + 1) := fun b hb e9 => by
    have h1 := (Array.getElem?_eq_some_iff.1 HA.out).1
    rcases (hf3 b hb).1 with h9 | h9
    · have := HI.out.lt b h9; omega
    · have := HP.out; omega
  clear hA3 hI3 hc3 hf3 hB3 hA4 hast hacd
  go_wp2
  have hST : Chg (fun b => b = w.heap.size + 1) w3 ((((w3.setCell ⟨w.heap.size + 1, 0, none⟩ (.int .i64 ast)).setCell ⟨w.heap.size + 1, 1, none⟩ (.int .i64 acd)).setCell ⟨w.heap.size + 1, 2, none⟩ (.slice ga' gn' gc')).setCell ⟨w.heap.size + 1, 3, none⟩ (.slice ba' bn' bc')) := Chg.of_grown ((((gset1 w3 (w.heap.size + 1) 0 _).trans' (gset1 _ (w.heap.size + 1) 1 _)).trans' (gset1 _ (w.heap.size + 1) 2 _)).trans' (gset1 _ (w.heap.size + 1) 3 _)) (fun b e => (Option.some.inj e).symm)
  refine bodyPost_ret (v := .tuple #[.agg #[.int .i64 ast, .int .i64 acd, .slice ga' gn' gc', .slice ba' bn' bc'], .int .i64 0]) (by simp [results, Tryz.results21, go_sem, b0, b1, b2, b3, f0, f1, f2, f3]) rfl ⟨F', ga', ba', gn', gc', bn', bc', by rw [HAS.out.1, HAS.out.2], HI3.out.chg hST (fun b hb e9 => HF4.out b hb e9), HC3.out.trans hST (fun b hb => .inr (by omega)), HF3.out⟩
theorem does_2 (h : IbA w p N I F) (x : UnM) (ye yn : Nat) (ycd : Int) (hs : inS (ye, yn)) (hN : N < 4611686018427387904) :
    Calls Tryz.prog 21 #[.pointer (some ⟨p, 0, none⟩), .agg (OpX.mk 2 x ye yn ycd).c] w fun e w' => DoP w p N F (decI I (ye, yn) ycd) ⟨0, 0, none⟩ (decE I (ye, yn) ycd) e w' := by
  obtain ⟨w2, hw2⟩ : ∃ w2, w2 = (w.alloc (.cells (OpX.mk 2 x ye yn ycd).c tOpX)).alloc (.cells #[.int .i64 0, .int .i64 0, .slice none 0 0, .slice none 0 0] 59) := ⟨_, rfl⟩
  have hb2 : Below w.heap.size w w2 := by rw [hw2]; exact al (al (Below.refl _ _) _) _
  have hA : w2.heap[w.heap.size + 1]? = some (.cells #[.int .i64 0, .int .i64 0, .slice none 0 0, .slice none 0 0] 59 (0, 0)) := by
    rw [hw2]
    have h9 := heap_alloc_new (w.alloc (.cells (OpX.mk 2 x ye yn ycd).c tOpX)) (.cells #[.int .i64 0, .int .i64 0, .slice none 0 0, .slice none 0 0] 59)
    rw [World.size_alloc] at h9
    exact h9
  have HCL : Hid (Calls _ _ _ w2 _) := dec_a (h.below hb2) (ye, yn) ycd hN
  have HI : Hid _ := h
  have HA : Hid _ := hA
  have HB2 : Hid _ := hb2
  obtain ⟨er, her⟩ : ∃ er, er = decE I (ye, yn) ycd := ⟨_, rfl⟩
  rw [← her] at HCL
  have HER : Hid _ := her
  obtain ⟨⟨k, e, se, pa, i, c, xs, cd, l⟩, da, dn, dc, ga, gn, gc⟩ := x
  have HW2 : Hid (w2 = _) := hw2
  clear h hb2 hA hw2 her
  go_enter Tryz.func21, Tryz.ntmps21
  go_wp2_with fail
  rw [← HW2.out]
  refine Calls.mono HCL.out ?_
  rintro e3 w3 ⟨rfl, F', hI3, hc3, hf3⟩
  have hA4 : w3.heap[w.heap.size + 1]? = _ := (hc3.block (w.heap.size + 1) (Array.getElem?_eq_some_iff.1 HA.out).1 (fun h9 => by have := HI.out.lt _ h9; omega)).trans HA.out
  obtain ⟨b0, b1, b2, b3, f0, f1, f2, f3⟩ := ansCell hA4
  have HI3 : Hid _ := hI3
  have HC3 : Hid (Chg F w w3) := (Chg.of_below HB2.out).trans hc3 (fun b hb => .inl hb)
  have HF3 : Hid (∀ b, F' b → F b ∨ w.heap.size ≤ b) := fun b hb => (hf3 b hb).imp id (fun h9 => Nat.le_trans HB2.out.size h9)
  have HF4 : Hid (∀ b, F' b → b ≠ w.heap.size + 1) := fun b hb e9 => by
    have h1 := (Array.getElem?_eq_some_iff.1 HA.out).1
    rcases hf3 b hb with h9 | h9
    · have := HI.out.lt b h9; omega
    · omega
  clear hI3 hc3 hf3 hA4
  go_wp2
  have hST : Chg (fun b => b = w.heap.size + 1) w3 ((((w3.setCell ⟨w.heap.size + 1, 0, none⟩ (.int .i64 0)).setCell ⟨w.heap.size + 1, 1, none⟩ (.int .i64 0)).setCell ⟨w.heap.size + 1, 2, none⟩ (.slice none 0 0)).setCell ⟨w.heap.size + 1, 3, none⟩ (.slice none 0 0)) := Chg.of_grown ((((gset1 w3 (w.heap.size + 1) 0 _).trans' (gset1 _ (w.heap.size + 1) 1 _)).trans' (gset1 _ (w.heap.size + 1) 2 _)).trans' (gset1 _ (w.heap.size + 1) 3 _)) (fun b e => (Option.some.inj e).symm)
  exact bodyPost_ret (v := .tuple #[.agg #[.int .i64 0, .int .i64 0, .slice none 0 0, .slice none 0 0], .int .i64 er]) (by simp [results, Tryz.results21, go_sem, b0, b1, b2, b3, f0, f1, f2, f3]) rfl ⟨F', none, none, 0, 0, 0, 0, by rw [HER.out], HI3.out.chg hST (fun b hb e9 => HF4.out b hb e9), HC3.out.trans hST (fun b hb => .inr (by omega)), HF3.out⟩
theorem does_3 (h : IbA w p N I F) (x : UnM) (ye yn : Nat) (ycd : Int) (hs : inS (ye, yn)) (hN : N < 4611686018427387904) :
    Calls Tryz.prog 21 #[.pointer (some ⟨p, 0, none⟩), .agg (OpX.mk 3 x ye yn ycd).c] w fun e w' => DoP w p N F (dropI I (ye, yn)) ⟨0, 0, none⟩ (0) e w' := by
  obtain ⟨w2, hw2⟩ : ∃ w2, w2 = (w.alloc (.cells (OpX.mk 3 x ye yn ycd).c tOpX)).alloc (.cells #[.int .i64 0, .int .i64 0, .slice none 0 0, .slice none 0 0] 59) := ⟨_, rfl⟩
  have hb2 : Below w.heap.size w w2 := by rw [hw2]; exact al (al (Below.refl _ _) _) _
  have hA : w2.heap[w.heap.size + 1]? = some (.cells #[.int .i64 0, .int .i64 0, .slice none 0 0, .slice none 0 0] 59 (0, 0)) := by
    rw [hw2]
    have h9 := heap_alloc_new (w.alloc (.cells (OpX.mk 3 x ye yn ycd).c tOpX)) (.cells #[.int .i64 0, .int .i64 0, .slice none 0 0, .slice none 0 0] 59)
    rw [World.size_alloc] at h9
    exact h9
  have HCL : Hid (Calls _ _ _ w2 _) := drop_a (h.below hb2) (ye, yn) hs
  have HI : Hid _ := h
  have HA : Hid _ := hA
  have HB2 : Hid _ := hb2
  obtain ⟨er, her⟩ : ∃ er, er = decide ((ye, yn) ∈ ks I.O) := ⟨_, rfl⟩
  rw [← her] at HCL
  have HER : Hid _ := her
  obtain ⟨⟨k, e, se, pa, i, c, xs, cd, l⟩, da, dn, dc, ga, gn, gc⟩ := x
  have HW2 : Hid (w2 = _) := hw2
  clear h hb2 hA hw2 her
  go_enter Tryz.func21, Tryz.ntmps21
  go_wp2_with fail
  rw [← HW2.out]
  refine Calls.mono HCL.out ?_
  rintro e3 w3 ⟨rfl, F', hI3, hc3, hf3⟩
  have hA4 : w3.heap[w.heap.size + 1]? = _ := (hc3.block (w.heap.size + 1) (Array.getElem?_eq_some_iff.1 HA.out).1 (fun h9 => by have := HI.out.lt _ h9; omega)).trans HA.out
  obtain ⟨b0, b1, b2, b3, f0, f1, f2, f3⟩ := ansCell hA4
  have HI3 : Hid _ := hI3
  have HC3 : Hid (Chg F w w3) := (Chg.of_below HB2.out).trans hc3 (fun b hb => .inl hb)
  have HF3 : Hid (∀ b, F' b → F b ∨ w.heap.size ≤ b) := fun b hb => (hf3 b hb).imp id (fun h9 => Nat.le_trans HB2.out.size h9)
  have HF4 : Hid (∀ b, F' b → b ≠ w.heap.size + 1) := fun b hb e9 => by
    have h1 := (Array.getElem?_eq_some_iff.1 HA.out).1
    rcases hf3 b hb with h9 | h9
    · have := HI.out.lt b h9; omega
    · omega
  clear hI3 hc3 hf3 hA4
  go_wp2
  have hST : Chg (fun b => b = w.heap.size + 1) w3 ((((w3.setCell ⟨w.heap.size + 1, 0, none⟩ (.int .i64 0)).setCell ⟨w.heap.size + 1, 1, none⟩ (.int .i64 0)).setCell ⟨w.heap.size + 1, 2, none⟩ (.slice none 0 0)).setCell ⟨w.heap.size + 1, 3, none⟩ (.slice none 0 0)) := Chg.of_grown ((((gset1 w3 (w.heap.size + 1) 0 _).trans' (gset1 _ (w.heap.size + 1) 1 _)).trans' (gset1 _ (w.heap.size + 1) 2 _)).trans' (gset1 _ (w.heap.size + 1) 3 _)) (fun b e => (Option.some.inj e).symm)
  exact bodyPost_ret (v := .tuple #[.agg #[.int .i64 0, .int .i64 0, .slice none 0 0, .slice none 0 0], .int .i64 0]) (by simp [results, Tryz.results21, go_sem, b0, b1, b2, b3, f0, f1, f2, f3]) rfl ⟨F', none, none, 0, 0, 0, 0, rfl, HI3.out.chg hST (fun b hb e9 => HF4.out b hb e9), HC3.out.trans hST (fun b hb => .inr (by omega)), HF3.out⟩
theorem does_o (h : IbA w p N I F) (kd : Int) (h1 : kd ≠ 1) (h2 : kd ≠ 2) (h3 : kd ≠ 3) (x : UnM) (ye yn : Nat) (ycd : Int) :
    Calls Tryz.prog 21 #[.pointer (some ⟨p, 0, none⟩), .agg (OpX.mk kd x ye yn ycd).c] w fun e w' => DoP w p N F I ⟨0, 0, none⟩ 0 e w' := by
  have HI : Hid _ := h
  have q1 : (kd == 1) = false := by simp [h1]
  have q2 : (kd == 2) = false := by simp [h2]
  have q3 : (kd == 3) = false := by simp [h3]
  obtain ⟨⟨k, e, se, pa, i, c, xs, cd, l⟩, da, dn, dc, ga, gn, gc⟩ := x
  clear h
  go_enter Tryz.func21, Tryz.ntmps21
  go_wp2
  exact bodyPost_ret (v := .tuple #[.agg #[.int .i64 0, .int .i64 0, .slice none 0 0, .slice none 0 0], .int .i64 0]) (by simp [results, Tryz.results21, go_sem]) rfl ⟨F, none, none, 0, 0, 0, 0, rfl, (HI.out.below (al (al (Below.refl _ _) _) _)).more (Nat.le_succ _), Chg.of_below (al (al (Below.refl _ _) _) _), fun b hb => .inl hb⟩
theorem does_t (h : IbA w p N I F) (y : OpX) (w0 : World) (hy : OpOk w0 y) (hb : Below w0.heap.size w0 w) (hF : ∀ b, F b → w0.heap.size ≤ b) (hN : N < 4611686018427387904) :
    Calls Tryz.prog 21 #[.pointer (some ⟨p, 0, none⟩), .agg y.c] w fun e w' => DoP w p N F (doI I y) (doA I y) (doE I y) e w' := by
  obtain ⟨kd, x, ye, yn, ycd⟩ := y
  unfold doI doA doE
  simp only
  by_cases h1 : kd = 1
  · subst h1
    rw [if_pos rfl, if_pos rfl, if_neg (by decide)]
    exact does_1 h x ye yn ycd w0 hy.un hb hF hN
  · rw [if_neg h1, if_neg h1]
    by_cases h2 : kd = 2
    · subst h2
      rw [if_pos rfl, if_pos rfl]
      exact does_2 h x ye yn ycd hy.s hN
    · rw [if_neg h2, if_neg h2]
      by_cases h3 : kd = 3
      · subst h3
        rw [if_pos rfl]
        exact does_3 h x ye yn ycd hy.s hN
      · rw [if_neg h3]
        exact does_o h kd h1 h2 h3 x ye yn ycd
end
end Go.Proofs.YtkdgjfjcpgiokaaGreat
