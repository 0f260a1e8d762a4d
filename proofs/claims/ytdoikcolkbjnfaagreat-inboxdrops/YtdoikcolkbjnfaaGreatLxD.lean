import Derived.Test.YtdoikcolkbjnfaaGreatLxA
namespace Go.Proofs.YtdoikcolkbjnfaaGreat
set_option linter.unusedVariables false
set_option linter.unusedSimpArgs false
open Go.RowKit Go.Maps
def kU1 : Un := oneU 1 1 0 2 [97, 98]
def kU2 : Un := oneU 1 1 1 2 [99]
def kI0 : Ib := newI 2 2
def kI1 : Ib := takeI kI0 kU1
def kI2 : Ib := takeI kI1 kU2
def kI3 : Ib := decI kI2 (1, 1) 1
def kI4 : Ib := takeI kI3 kU1
theorem kA1 : takeA kI0 kU1 = ⟨3, 0, some [[97, 98], []]⟩ := by kernel_rfl
theorem kA2 : takeA kI1 kU2 = ⟨4, 0, some [[97, 98], [99]]⟩ := by kernel_rfl
theorem kE3 : decE kI2 (1, 1) 1 = 0 := by kernel_rfl
theorem kA4 : takeA kI3 kU1 = ⟨5, 1, none⟩ := by kernel_rfl
theorem kE4 : kI4.ep = 1 := by kernel_rfl
theorem kG1 {rs : List Rg} {xs : List UInt8} (h : AnsR ⟨3, 0, some [[97, 98], []]⟩ rs xs) : rs = [(0, 1)] ∧ xs = [] := by
  have h1 : xs = [] ∧ GotIs rs (some [[97, 98], []]) := by
    unfold AnsR at h
    simp only at h
    rw [if_neg (by decide)] at h
    exact h
  refine ⟨GotIs.uniq h1.2 ⟨⟨by simp, by simp⟩, fun i => Iff.rfl⟩, h1.1⟩
theorem kG2 {rs : List Rg} {xs : List UInt8} (h : AnsR ⟨4, 0, some [[97, 98], [99]]⟩ rs xs) : rs = [] ∧ xs = [97, 98, 99] := by
  unfold AnsR at h
  simp only at h
  rw [if_pos (by decide)] at h
  exact h
section
set_option maxRecDepth 20000
set_option maxHeartbeats 3200000
theorem knows_t (w : World) : Calls Tryz.prog 9 #[] w fun e w' => e = .returned (.bool true) ∧ Below w.heap.size w w' := by
  have HNW : Hid (Calls Tryz.prog 11 #[.int .i64 2, .int .i64 2] w _) := new_a 2 2 (by decide) (by decide) (by decide) (by decide) w
  have HO1 : Hid (∀ u : World, Calls Tryz.prog 14 #[.int .u64 1, .int .u64 1, .int .i64 0, .int .i64 2, .string ⟨#[97, 98]⟩] u _) := fun u => one_t 1 1 0 2 [97, 98] u
  have HO2 : Hid (∀ u : World, Calls Tryz.prog 14 #[.int .u64 1, .int .u64 1, .int .i64 1, .int .i64 2, .string ⟨#[99]⟩] u _) := fun u => one_t 1 1 1 2 [99] u
  go_enter Tryz.func9, Tryz.ntmps9
  go_wp2_with fail
  refine Calls.mono HNW.out ?_
  rintro e w1 ⟨p, F, rfl, hI, hF, hb1⟩
  have HI1 : Hid (IbA w1 p 0 kI0 F) := hI
  have HF1 : Hid _ := hF
  have HB1 : Hid _ := hb1
  clear hI hF hb1
  go_wp2_with fail
  refine Calls.mono (HO1.out _) ?_
  rintro e w2 ⟨g, cp, rfl, hrd, hg, hb2⟩
  have HI2 : Hid (IbA w2 p 0 kI0 F) := HI1.out.below hb2
  have HT2 : Hid (Calls _ _ _ w2 _) := take_a HI2.out kU1 (some ⟨g, 0, none⟩) 2 cp none 0 0 rfl rfl hrd (fun _ b hb a ha e9 => by cases ha; have := HI1.out.lt b hb; simp only at e9; omega) (fun h => by cases h) (by decide)
  rw [kA1] at HT2
  have HB2 : Hid (Below w.heap.size w w2) := below_next HB1.out hb2
  clear hrd hg hb2
  go_wp2_with fail
  refine Calls.mono HT2.out ?_
  rintro e w3 ⟨F3, B3, ga, ba, gn, gc, bn, bc, rs, xs, rfl, hA3, hI3, hc3, hf3, hB3⟩
  obtain ⟨rfl, rfl⟩ := kG1 hA3.is_
  obtain ⟨ga', gc', hv1, -, -, -, hrdg, -⟩ := OwnR.val hA3.gr
  obtain ⟨rfl, rfl, rfl⟩ : ga' = ga ∧ gn = 1 ∧ gc' = gc := by simp only [Value.slice.injEq] at hv1; exact ⟨hv1.1.symm, hv1.2.1, hv1.2.2.symm⟩
  have HB3 : Hid (Below w.heap.size w w3) := HB2.out.trans (hc3.below HF1.out HB2.out.size)
  have HF3 : Hid (∀ b, F3 b → w.heap.size ≤ b) := fun b hb => ((hf3 b hb).1).elim (HF1.out b) (fun h => Nat.le_trans HB2.out.size h)
  have HI3 : Hid (IbA w3 p 1 kI1 F3) := hI3
  have HRD3 : Hid (RdR w3 ga' [(0, 1)]) := hrdg
  have HRG : Hid (Calls Tryz.prog 28 #[.slice ga' 1 gc', .slice (some ⟨w3.heap.size + 1, 0, none⟩) 1 1] ((w3.alloc (.cells #[.int .i64 3, .int .i64 0, .slice ga' 1 gc', .slice ba bn bc] 44)).alloc (.cells #[.int .i64 0, .int .i64 1] 71)) _) :=
    rangesI_t ga' (some ⟨w3.heap.size + 1, 0, none⟩) 1 1 gc' 1 [(0, 1)] [(0, 1)] _ rfl rfl ((hrdg.below (al (Below.refl _ _) _)).below (al (Below.refl _ _) _)) (by have h9 := rd_lit1 (w3.alloc (.cells #[.int .i64 3, .int .i64 0, .slice ga' 1 gc', .slice ba bn bc] 44)) (0, 1); rw [World.size_alloc] at h9; exact h9) (by decide) rfl
  clear hA3 hI3 hc3 hf3 hB3 hrdg hv1
  unfold ansV
  go_wp2_with fail
  refine Calls.mono HRG.out ?_
  rintro e w4 ⟨rfl, hb4⟩
  have HB34 : Hid (Below w3.heap.size w3 w4) := (al (al (Below.refl w3.heap.size w3) _) _).trans (hb4.mono (by simp; omega))
  have HI4 : Hid (IbA w4 p 1 kI1 F3) := HI3.out.below HB34.out
  have HB4 : Hid (Below w.heap.size w w4) := below_next HB3.out HB34.out
  clear hb4
  go_wp2_with fail
  refine Calls.mono (HO2.out _) ?_
  rintro e w5 ⟨g5, cp5, rfl, hrd, hg, hb5⟩
  have HI5 : Hid (IbA w5 p 1 kI1 F3) := HI4.out.below hb5
  have HT5 : Hid (Calls _ _ _ w5 _) := take_a HI5.out kU2 (some ⟨g5, 0, none⟩) 1 cp5 none 0 0 rfl rfl hrd (fun _ b hb a ha e9 => by cases ha; have := HI4.out.lt b hb; simp only at e9; omega) (fun h => by cases h) (by decide)
  rw [kA2] at HT5
  have HB5 : Hid (Below w.heap.size w w5) := below_next HB4.out hb5
  clear hrd hg hb5
  go_wp2_with fail
  refine Calls.mono HT5.out ?_
  rintro e w6 ⟨F6, B6, ga6, ba6, gn6, gc6, bn6, bc6, rs6, xs6, rfl, hA6, hI6, hc6, hf6, hB6⟩
  obtain ⟨rfl, rfl⟩ := kG2 hA6.is_
  obtain ⟨ba', bc', hv6, -, -, -, hrd6, -⟩ := Own.val hA6.bl
  obtain ⟨rfl, rfl, rfl⟩ : ba' = ba6 ∧ bn6 = 3 ∧ bc' = bc6 := by simp only [Value.slice.injEq] at hv6; exact ⟨hv6.1.symm, hv6.2.1, hv6.2.2.symm⟩
  have HB6 : Hid (Below w.heap.size w w6) := HB5.out.trans (hc6.below HF3.out HB5.out.size)
  have HF6 : Hid (∀ b, F6 b → w.heap.size ≤ b) := fun b hb => ((hf6 b hb).1).elim (HF3.out b) (fun h => Nat.le_trans HB5.out.size h)
  have HI6 : Hid (IbA w6 p 2 kI2 F6) := hI6
  have hcv : (convert 34 9 (.slice ba' 3 bc')).run Tryz.prog (w6.alloc (.cells #[.int .i64 4, .int .i64 0, .slice ga6 gn6 gc6, .slice ba' 3 bc'] 44)) = .ok (.string ⟨#[97, 98, 99]⟩) _ := conv_rd' (Rd.below hrd6 (al (Below.refl _ _) _)) 3 bc' rfl
  have HDC : Hid (Calls Tryz.prog 29 #[.pointer (some ⟨p, 0, none⟩), .agg #[.int .u64 1, .int .u64 1], .int .i64 1] (w6.alloc (.cells #[.int .i64 4, .int .i64 0, .slice ga6 gn6 gc6, .slice ba' 3 bc'] 44)) _) := dec_a (hI6.below (al (Below.refl _ _) _)) (1, 1) 1 (by decide)
  rw [show decE (takeI kI1 kU2) (1, 1) 1 = 0 from kE3] at HDC
  clear hA6 hI6 hc6 hf6 hB6 hrd6 hv6
  unfold ansV
  go_wp2_with fail
  refine Calls.mono HDC.out ?_
  rintro e w7 ⟨rfl, F7, hI7, hc7, hf7⟩
  have HB66 : Hid (Below w.heap.size w (w6.alloc (.cells #[.int .i64 4, .int .i64 0, .slice ga6 gn6 gc6, .slice ba' 3 bc'] 44))) := al HB6.out _
  have HB7 : Hid (Below w.heap.size w w7) := HB66.out.trans (hc7.below HF6.out HB66.out.size)
  have HF7 : Hid (∀ b, F7 b → w.heap.size ≤ b) := fun b hb => (hf7 b hb).elim (HF6.out b) (fun h => Nat.le_trans HB66.out.size h)
  have HI7 : Hid (IbA w7 p 3 kI3 F7) := hI7
  clear hI7 hc7 hf7
  go_wp2_with fail
  refine Calls.mono (HO1.out _) ?_
  rintro e w8 ⟨g8, cp8, rfl, hrd, hg, hb8⟩
  have HI8 : Hid (IbA w8 p 3 kI3 F7) := HI7.out.below hb8
  have HT8 : Hid (Calls _ _ _ w8 _) := take_a HI8.out kU1 (some ⟨g8, 0, none⟩) 2 cp8 none 0 0 rfl rfl hrd (fun _ b hb a ha e9 => by cases ha; have := HI7.out.lt b hb; simp only at e9; omega) (fun h => by cases h) (by decide)
  rw [kA4] at HT8
  have HB8 : Hid (Below w.heap.size w w8) := below_next HB7.out hb8
  clear hrd hg hb8
  go_wp2_with fail
  refine Calls.mono HT8.out ?_
  rintro e w9 ⟨F9, B9, ga9, ba9, gn9, gc9, bn9, bc9, rs9, xs9, rfl, hA9, hI9, hc9, hf9, hB9⟩
  have HB9 : Hid (Below w.heap.size w w9) := HB8.out.trans (hc9.below HF7.out HB8.out.size)
  have HEP : Hid (Calls Tryz.prog 30 #[.pointer (some ⟨p, 0, none⟩)] (w9.alloc (.cells #[.int .i64 5, .int .i64 1, .slice ga9 gn9 gc9, .slice ba9 bn9 bc9] 44)) _) := epoch_a (hI9.below (al (Below.refl _ _) _))
  rw [show (takeI kI3 kU1).ep = 1 from kE4] at HEP
  clear hA9 hI9 hc9 hf9 hB9
  unfold ansV
  go_wp2_with fail
  refine Calls.mono HEP.out ?_
  rintro e w10 ⟨rfl, hq⟩
  have hq := hq.symm
  subst hq
  go_wp2
  go_ret
  exact ⟨rfl, al HB9.out _⟩
end
end Go.Proofs.YtdoikcolkbjnfaaGreat
namespace Go.Proofs.YtdoikcolkbjnfaaGreat
set_option linter.unusedVariables false
set_option linter.unusedSimpArgs false
open Go.RowKit Go.Maps
/-- a unit with its memory -/
structure UnM where
  u : Un
  da : Option Addr
  dn : Nat
  dc : Nat
  ga : Option Addr
  gn : Nat
  gc : Nat
abbrev UnM.c (x : UnM) : Array Value := unC x.u.kind x.u.ep x.u.se x.u.path x.u.idx x.u.cnt x.da x.dn x.dc x.u.code x.ga x.gn x.gc
structure UnOk (w : World) (x : UnM) : Prop where
  hn : x.dn = x.u.data.length
  hg : x.gn = x.u.got.length
  rd : Rd w x.da x.u.data
  dl : x.u.data.length ≤ x.dc
  dz : x.da = none → x.dc = 0
  db : x.dc ≤ 140737488351232
  rg : RdR w x.ga x.u.got
  gl : x.u.got.length ≤ x.gc
  gz : x.ga = none → x.gc = 0
  gb : x.gc ≤ 8796093021952
  ee : ∃ n : Nat, x.u.ep = (n : Int) ∧ n < 18446744073709551616
  es : ∃ n : Nat, x.u.se = (n : Int) ∧ n < 18446744073709551616
theorem UnOk.below {w w' : World} {x : UnM} (h : UnOk w x) (hb : Below w.heap.size w w') : UnOk w' x := ⟨h.hn, h.hg, Rd.below h.rd hb, h.dl, h.dz, h.db, h.rg.below hb, h.gl, h.gz, h.gb, h.ee, h.es⟩
end Go.Proofs.YtdoikcolkbjnfaaGreat
namespace Go.Proofs.YtdoikcolkbjnfaaGreat
set_option linter.unusedVariables false
set_option linter.unusedSimpArgs false
open Go.RowKit Go.Maps
abbrev tRi : TypeId := 107
/-- the document's rows -/
abbrev KO : Kd (Ss × Nat) := { t := 110, ts := 104, k := 3, by_ := 24, f := fun x => [.int .u64 (x.1.1 : Int), .int .u64 (x.1.2 : Int), .pointer (some ⟨x.2, 0, none⟩)], z := .agg #[.int .u64 0, .int .u64 0, .pointer none], hk := fun _ => rfl, h1 := (fun d u hu => by simp at hu; rcases hu with rfl | rfl | rfl <;> rfl), hpos := by decide, ht := Tryz.underlying104, hi := by kernel_rfl, hz := rfl }
abbrev KH : Kd (Ss × Int) := { t := 112, ts := 105, k := 3, by_ := 24, f := fun x => [.int .u64 (x.1.1 : Int), .int .u64 (x.1.2 : Int), .int .i64 x.2], z := .agg #[.int .u64 0, .int .u64 0, .int .i64 0], hk := fun _ => rfl, h1 := (fun d u hu => by simp at hu; rcases hu with rfl | rfl | rfl <;> rfl), hpos := by decide, ht := Tryz.underlying105, hi := by kernel_rfl, hz := rfl }
abbrev riC (J : Ib) (oa : Option Addr) (on oc : Nat) (sa : Option Addr) (sn sc : Nat) : Array Value := #[.int .i64 (J.mo : Int), .int .i64 (J.ms : Int), .int .u64 (J.ep : Int), .slice oa on oc, .slice sa sn sc]
/-- the document's inbox in memory -/
structure Rib (out : Option Ss) (w : World) (q : Nat) (oa : Option Addr) (on oc : Nat) (sa : Option Addr) (sn sc : Nat) (J : Ib) (E : List (Ss × Bg)) : Prop where
  hp : w.heap[q]? = some (.cells (riC J oa on oc sa sn sc) tRi (0, 0))
  ro : OwnG KO w 0 (.slice oa on oc) (mp Bg.q E)
  rs : OwnG KH w 0 (.slice sa sn sc) J.H
  bx : ∀ x, x ∈ E → out ≠ some x.1 → RBx w (some ⟨x.2.q, 0, none⟩) (some x.2.S) x.2.F
  ap : E.Pairwise (fun x y => out ≠ some x.1 → out ≠ some y.1 → ∀ b, x.2.F b → y.2.F b → False)
  nf : ∀ x, x ∈ E → out ≠ some x.1 → ∀ b, x.2.F b → b ≠ q ∧ (Value.slice oa on oc).ownBlock ≠ some b ∧ (Value.slice sa sn sc).ownBlock ≠ some b
  eO : J.O = mp Bg.S E
  ok : IbOk J
def footD (out : Option Ss) (q : Nat) (oa : Option Addr) (on oc : Nat) (sa : Option Addr) (sn sc : Nat) (E : List (Ss × Bg)) (b : Nat) : Prop := b = q ∨ (Value.slice oa on oc).ownBlock = some b ∨ (Value.slice sa sn sc).ownBlock = some b ∨ ∃ x, x ∈ E ∧ out ≠ some x.1 ∧ x.2.F b
theorem own_len {α : Type} {K : Kd α} {w : World} {B n c : Nat} {a : Option Addr} {xs : List α} (h : OwnG K w B (.slice a n c) xs) : n = xs.length := by
  rcases h.2 with ⟨e, h0⟩ | ⟨g, cap, cur, e, -⟩
  · simp only [Value.slice.injEq] at e
    omega
  · simp only [Value.slice.injEq] at e
    exact e.2.1
section
variable {out : Option Ss} {w w' : World} {q : Nat} {oa : Option Addr} {on oc : Nat} {sa : Option Addr} {sn sc : Nat} {J : Ib} {E : List (Ss × Bg)}
theorem Rib.lt (h : Rib out w q oa on oc sa sn sc J E) {b : Nat} (hb : footD out q oa on oc sa sn sc E b) : b < w.heap.size := by
  rcases hb with rfl | hb | hb | ⟨x, hx, ho, hf⟩
  · exact (Array.getElem?_eq_some_iff.1 h.hp).1
  · exact (h.ro.lt' hb).2
  · exact (h.rs.lt' hb).2
  · exact (h.bx x hx ho).lt b hf
theorem Rib.kept (h : Rib out w q oa on oc sa sn sc J E) (hs : w.heap.size ≤ w'.heap.size) (hk : ∀ b, footD out q oa on oc sa sn sc E b → w'.heap[b]? = w.heap[b]?) : Rib out w' q oa on oc sa sn sc J E :=
  ⟨(hk q (.inl rfl)).trans h.hp, h.ro.kept (fun b hb => hk b (.inr (.inl hb))), h.rs.kept (fun b hb => hk b (.inr (.inr (.inl hb)))), fun x hx ho => (h.bx x hx ho).kept hs (fun b hb => hk b (.inr (.inr (.inr ⟨x, hx, ho, hb⟩)))), h.ap, h.nf, h.eO, h.ok⟩
theorem Rib.below (h : Rib out w q oa on oc sa sn sc J E) (hb : Below w.heap.size w w') : Rib out w' q oa on oc sa sn sc J E := h.kept hb.size (fun b hf => hb.block b (h.lt hf))
theorem Rib.chg {D : Nat → Prop} (h : Rib out w q oa on oc sa sn sc J E) (hc : Chg D w w') (hD : ∀ b, footD out q oa on oc sa sn sc E b → ¬ D b) : Rib out w' q oa on oc sa sn sc J E := h.kept hc.size (fun b hf => hc.block b (h.lt hf) (hD b hf))
theorem Rib.cell (h : Rib out w q oa on oc sa sn sc J E) : w.cell? ⟨q, 0, none⟩ = some (.int .i64 (J.mo : Int)) ∧ w.cell? ⟨q, 1, none⟩ = some (.int .i64 (J.ms : Int)) ∧ w.cell? ⟨q, 2, none⟩ = some (.int .u64 (J.ep : Int)) ∧ w.cell? ⟨q, 3, none⟩ = some (.slice oa on oc) ∧ w.cell? ⟨q, 4, none⟩ = some (.slice sa sn sc) := by
  have h9 := h.hp
  exact ⟨by rw [cell_of_row _ _ _ _ _ _ h9]; rfl, by rw [cell_of_row _ _ _ _ _ _ h9]; rfl, by rw [cell_of_row _ _ _ _ _ _ h9]; rfl, by rw [cell_of_row _ _ _ _ _ _ h9]; rfl, by rw [cell_of_row _ _ _ _ _ _ h9]; rfl⟩
theorem Rib.onL (h : Rib out w q oa on oc sa sn sc J E) : on = J.O.length := by rw [own_len h.ro, len_mp, h.eO, len_mp]
theorem Rib.snL (h : Rib out w q oa on oc sa sn sc J E) : sn = J.H.length := own_len h.rs
end
/-- a row's element -/
theorem rdG_at {α : Type} {K : Kd α} {w : World} {B n c : Nat} {a : Option Addr} {xs : List α} (h : OwnG K w B (.slice a n c) xs) (k : Nat) (hk : k < xs.length) : ∃ b, a = some ⟨b, 0, none⟩ ∧ w.rangeAt b (k * K.k) (K.f xs[k]) := by
  rcases h.2 with ⟨e, h0⟩ | ⟨g, cap, cur, e, -⟩
  · omega
  · simp only [Value.slice.injEq] at e
    obtain ⟨rfl, rfl, rfl⟩ := e
    obtain ⟨b, o, e1, e2, -⟩ := OwnG.rd h k hk
    cases e1
    rw [Nat.zero_add] at e2
    exact ⟨g, rfl, e2⟩
section
set_option maxRecDepth 20000
set_option maxHeartbeats 1600000
theorem rnew_no13 (a b : Int) (h : ¬ ((1 ≤ a ∧ a ≤ 64) ∧ (1 ≤ b ∧ b ≤ 4096))) (w : World) : Calls Tryz.prog 42 #[.int .i64 a, .int .i64 b] w fun e w' => e = .returned (.tuple #[.pointer none, .int .i64 1]) ∧ w' = w := by
  by_cases h1 : a < 1
  · go_enter Tryz.func42, Tryz.ntmps42
    go_wp2
    go_ret2
    exact ⟨rfl, rfl⟩
  · by_cases h2 : 64 < a
    · go_enter Tryz.func42, Tryz.ntmps42
      go_wp2
      go_ret2
      exact ⟨rfl, rfl⟩
    · by_cases h3 : b < 1
      · go_enter Tryz.func42, Tryz.ntmps42
        go_wp2
        go_ret2
        exact ⟨rfl, rfl⟩
      · have h4 : 4096 < b := by omega
        go_enter Tryz.func42, Tryz.ntmps42
        go_wp2
        go_ret2
        exact ⟨rfl, rfl⟩
theorem newI_ok {a b : Nat} (ha : 1 ≤ a) (ha2 : a ≤ 64) (hb : 1 ≤ b) (hb2 : b ≤ 4096) : IbOk (newI a b) := ⟨ha, ha2, hb, hb2, Nat.zero_le _, Nat.zero_le _, by simp [ks, newI], by simp [ks, newI], fun s hs => by simp [ks, newI] at hs, fun s hs => by simp [ks, newI] at hs, fun s hs => by simp [ks, newI] at hs, by show 0 < 18446744073709551616; decide⟩
theorem rnew_t13 (a b : Nat) (ha : 1 ≤ a) (ha2 : a ≤ 64) (hb : 1 ≤ b) (hb2 : b ≤ 4096) (w : World) : Calls Tryz.prog 42 #[.int .i64 (a : Int), .int .i64 (b : Int)] w fun e w' => ∃ q, e = .returned (.tuple #[.pointer (some ⟨q, 0, none⟩), .int .i64 0]) ∧ Rib none w' q none 0 0 none 0 0 (newI a b) [] ∧ w.heap.size ≤ q ∧ Below w.heap.size w w' := by
  have h1 : ¬ (a : Int) < 1 := by omega
  have h2 : ¬ 64 < (a : Int) := by omega
  have h3 : ¬ (b : Int) < 1 := by omega
  have h4 : ¬ 4096 < (b : Int) := by omega
  go_enter Tryz.func42, Tryz.ntmps42
  go_wp2
  go_ret2
  exact ⟨w.heap.size, rfl, ⟨heap_alloc_new w _, World.ownsRow_nil _ _ _ _, World.ownsRow_nil _ _ _ _, fun x hx => (List.not_mem_nil hx).elim, List.Pairwise.nil, fun x hx => (List.not_mem_nil hx).elim, rfl, newI_ok ha ha2 hb hb2⟩, Nat.le_refl _, al (Below.refl _ _) _⟩
end
end Go.Proofs.YtdoikcolkbjnfaaGreat
