import Derived.Test.YtibepnilhmbpeaaDoorSLa
namespace Go.Proofs.YtibepnilhmbpeaaDoor
set_option linter.unusedVariables false
set_option linter.unusedSimpArgs false
open Go.RowKit
/-- the place of a number among starts that rise -/
structure BsIs (L : List Sta) (n i : Nat) : Prop where
  le : i ≤ L.length
  lo : ∀ q s, q < i → L[q]? = some s → s.n < n
  hi : ∀ q s, i ≤ q → L[q]? = some s → n ≤ s.n
def bsF (L : List Sta) (n i : Nat) : Bool := match L[i]? with
  | none => false
  | some s => decide (s.n = n)
theorem BsLo {L : List Sta} {n h : Nat} {s : Sta} (hs : L.Pairwise (fun x y => x.n < y.n)) (h1 : L[h]? = some s) (h2 : s.n < n) : ∀ q t, q < h + 1 → L[q]? = some t → t.n < n := by
  intro q t hq ht
  obtain ⟨h3, rfl⟩ := List.getElem?_eq_some_iff.1 h1
  obtain ⟨h4, rfl⟩ := List.getElem?_eq_some_iff.1 ht
  rcases Nat.lt_or_ge q h with h5 | h5
  · have := List.pairwise_iff_getElem.1 hs q h h4 h3 h5; omega
  · obtain rfl : q = h := by omega
    exact h2
theorem BsHi {L : List Sta} {n h : Nat} {s : Sta} (hs : L.Pairwise (fun x y => x.n < y.n)) (h1 : L[h]? = some s) (h2 : ¬ s.n < n) : ∀ q t, h ≤ q → L[q]? = some t → n ≤ t.n := by
  intro q t hq ht
  obtain ⟨h3, rfl⟩ := List.getElem?_eq_some_iff.1 h1
  obtain ⟨h4, rfl⟩ := List.getElem?_eq_some_iff.1 ht
  rcases Nat.lt_or_ge h q with h5 | h5
  · have := List.pairwise_iff_getElem.1 hs h q h3 h4 h5; omega
  · obtain rfl : q = h := by omega
    omega
set_option maxRecDepth 20000 in
set_option maxHeartbeats 3200000 in
theorem bs_t (ao : Option Addr) (N cap : Nat) (L : List Sta) (n : Nat) (hN : N = L.length) (hs : L.Pairwise (fun x y => x.n < y.n)) (hl : N ≤ 1000000) (w : World) (hr : RdG KS w ao L) :
    Calls Tryd.prog 63 #[.slice ao N cap, .int .u64 (n : Int), .func (.func 64) #[] #[]] w fun e w' => ∃ i : Nat, e = .returned (.tuple #[.int .i64 (i : Int), .bool (bsF L n i)]) ∧ BsIs L n i ∧ Below w.heap.size w w' := by
  have HF1 : Hid (∀ s u, Calls _ _ _ u _) := fun s u => find1_t s n u
  have HN : Hid (N = L.length) := hN
  have HS : Hid (L.Pairwise (fun x y => x.n < y.n)) := hs
  have HR : Hid (RdG KS w ao L) := hr
  clear hN hs hr
  go_enter Tryd.func63, Tryd.ntmps63
  go_wp2
  go_loopw [9, 10] (fun x y wr => ∃ i j : Nat, i ≤ j ∧ j ≤ N ∧ x = .int .i64 (i : Int) ∧ y = .int .i64 (j : Int) ∧ Hid ((∀ q s, q < i → L[q]? = some s → s.n < n) ∧ ∀ q s, j ≤ q → L[q]? = some s → n ≤ s.n) ∧ Below w.heap.size w wr) (fun x y _ => (intOf y).toNat - (intOf x).toNat)
  case atStart => exact ⟨0, N, Nat.zero_le _, Nat.le_refl _, rfl, rfl, ⟨(fun q s hq => by omega), (fun q s hq hs => by have := (List.getElem?_eq_some_iff.1 hs).1; have := HN.out; omega)⟩, Below.refl _ _⟩
  case round =>
    obtain ⟨i, j, hij, hjN, rfl, rfl, HI, hbw⟩ := hrel
    have HB : Hid (Below w.heap.size w wr) := hbw
    clear hbw
    by_cases hlt : i < j
    · have hltI : (i : Int) < (j : Int) := by omega
      obtain ⟨h, hh⟩ : ∃ h, h = (i + j) / 2 := ⟨_, rfl⟩
      have hw1 : IntKind.i64.wrap ((i : Int) + (j : Int)) = ((i + j : Nat) : Int) := by rw [IntKind.wrap_i64]; omega
      have hij2 : (i + j) / 2 < N := by omega
      obtain ⟨s, hsL⟩ : ∃ s, L[h]? = some s := ⟨_, List.getElem?_eq_getElem (by have := HN.out; omega)⟩
      obtain ⟨b, o, rfl, hrg, -⟩ := HR.out h (by have := HN.out; omega)
      obtain rfl : L[h]'(by have := HN.out; omega) = s := by rw [List.getElem?_eq_getElem (by have := HN.out; omega)] at hsL; exact Option.some.inj hsL
      obtain ⟨s, hs⟩ : ∃ s, s = L[h]'(by have := HN.out; omega) := ⟨_, rfl⟩
      rw [← hs] at hrg hsL
      have c0 : wr.cell? ⟨b, o + (i + j) / 2 * 2, none⟩ = some (.int .u64 (s.n : Int)) := by have := rangeAt_below hrg HB.out 0 _ rfl; rw [hh] at this; exact this
      have c1 : wr.cell? ⟨b, o + (i + j) / 2 * 2 + 1, none⟩ = some (.int .u64 (s.e : Int)) := by have := rangeAt_below hrg HB.out 1 _ rfl; rw [hh] at this; exact this
      have HSL : Hid (L[(i + j) / 2]? = some s) := by unfold Hid; rw [← hh]; exact hsL
      clear hs hrg hsL hh h
      by_cases hc : s.n < n
      · have hcI : cmpN s.n n < 0 := by unfold cmpN; rw [if_pos hc]; decide
        have HC : Hid (s.n < n) := hc
        clear hc
        go_wp2_with (go_at_call 64; refine Calls.mono (HF1.out s _) ?_; rintro e w' ⟨rfl, hq⟩; have HB2 : Hid (Below w.heap.size w w') := below_next HB.out hq; clear hq c0 c1)
        go_roundw
        case rel => exact ⟨(i + j) / 2 + 1, j, by omega, hjN, by go_num, rfl, ⟨BsLo HS.out HSL.out HC.out, HI.out.2⟩, HB2.out⟩
        case measure => simp [intOf]; omega
      · have hcI : ¬ cmpN s.n n < 0 := by unfold cmpN; rw [if_neg hc]; split <;> decide
        have HC : Hid (¬ s.n < n) := hc
        clear hc
        go_wp2_with (go_at_call 64; refine Calls.mono (HF1.out s _) ?_; rintro e w' ⟨rfl, hq⟩; have HB2 : Hid (Below w.heap.size w w') := below_next HB.out hq; clear hq c0 c1)
        go_roundw
        case rel => exact ⟨i, (i + j) / 2, by omega, by omega, rfl, by go_num, ⟨HI.out.1, BsHi HS.out HSL.out HC.out⟩, HB2.out⟩
        case measure => simp [intOf]; omega
    · obtain rfl : i = j := by omega
      have hltI : ¬ (i : Int) < (i : Int) := by omega
      clear hlt
      by_cases hiN : i < N
      · have hiNI : (i : Int) < (N : Int) := by omega
        obtain ⟨s, hsL⟩ : ∃ s, L[i]? = some s := ⟨_, List.getElem?_eq_getElem (by have := HN.out; omega)⟩
        obtain ⟨b, o, rfl, hrg, -⟩ := HR.out i (by have := HN.out; omega)
        obtain rfl : L[i]'(by have := HN.out; omega) = s := by rw [List.getElem?_eq_getElem (by have := HN.out; omega)] at hsL; exact Option.some.inj hsL
        obtain ⟨s, hs⟩ : ∃ s, s = L[i]'(by have := HN.out; omega) := ⟨_, rfl⟩
        rw [← hs] at hrg hsL
        have c0 : wr.cell? ⟨b, o + i * 2, none⟩ = some (.int .u64 (s.n : Int)) := rangeAt_below hrg HB.out 0 _ rfl
        have c1 : wr.cell? ⟨b, o + i * 2 + 1, none⟩ = some (.int .u64 (s.e : Int)) := rangeAt_below hrg HB.out 1 _ rfl
        have HSL : Hid (L[i]? = some s) := hsL
        have hge := HI.out.2 i s (Nat.le_refl _) hsL
        clear hs hrg hsL
        by_cases hc : s.n = n
        · have hcI : cmpN s.n n = 0 := by unfold cmpN; rw [if_neg (by omega), if_neg (by omega)]
          have HFa : Hid (∀ u, Calls _ _ _ u _) := fun u => find1_t s n u
          rw [hcI] at HFa
          have HE : Hid (bsF L n i = true) := by unfold Hid bsF; rw [HSL.out]; exact decide_eq_true hc
          clear hc hcI hge
          go_wp2_with (go_at_call 64; refine Calls.mono (HFa.out _) ?_; rintro e w' ⟨rfl, hq⟩; have HB2 : Hid (Below w.heap.size w w') := below_next HB.out hq; clear hq c0 c1)
          go_ret2
          exact ⟨i, by rw [HE.out]; rfl, ⟨Nat.le_trans hjN (Nat.le_of_eq HN.out), HI.out.1, HI.out.2⟩, HB2.out⟩
        · have hcI : cmpN s.n n = 1 := by unfold cmpN; rw [if_neg (by omega), if_pos (by omega)]
          have HFa : Hid (∀ u, Calls _ _ _ u _) := fun u => find1_t s n u
          rw [hcI] at HFa
          have HE : Hid (bsF L n i = false) := by unfold Hid bsF; rw [HSL.out]; exact decide_eq_false hc
          clear hc hcI hge
          go_wp2_with (go_at_call 64; refine Calls.mono (HFa.out _) ?_; rintro e w' ⟨rfl, hq⟩; have HB2 : Hid (Below w.heap.size w w') := below_next HB.out hq; clear hq c0 c1)
          go_ret2
          exact ⟨i, by rw [HE.out]; rfl, ⟨Nat.le_trans hjN (Nat.le_of_eq HN.out), HI.out.1, HI.out.2⟩, HB2.out⟩
      · have hiNI : ¬ (i : Int) < (N : Int) := by omega
        have HE : Hid (bsF L n i = false) := by unfold Hid bsF; rw [List.getElem?_eq_none (by have := HN.out; omega)]
        go_wp2_with fail
        go_ret2
        exact ⟨i, by rw [HE.out]; rfl, ⟨Nat.le_trans hjN (Nat.le_of_eq HN.out), HI.out.1, HI.out.2⟩, HB.out⟩
end Go.Proofs.YtibepnilhmbpeaaDoor
namespace Go.Proofs.YtibepnilhmbpeaaDoor
set_option linter.unusedVariables false
set_option linter.unusedSimpArgs false
open Go.RowKit
abbrev tLg : TypeId := 58
/-- a log that is open: what it holds -/
structure Lg where
  A : Nat
  Z : Nat
  h : Hd
  nx : Nat
  L : List Sta
  fl : Bool
/-- its cells -/
abbrev Lg.c (x : Lg) (p : Nat) (sa : Option Addr) (sc : Nat) : Array Value := #[.pointer (some ⟨p, 0, none⟩), .int .i64 (x.A : Int), .int .i64 (x.Z : Int), .int .u64 (x.h.g : Int), .int .u64 (x.h.e : Int), .int .u64 (x.h.f : Int), .int .u64 (x.h.l : Int), .int .u64 (x.nx : Int), .slice sa x.L.length sc, .bool x.fl]
def Lg.hear (x : Lg) (e : Int) : Lg := if e = 5 then { x with fl := true } else x
theorem cells10 {w : World} {g : Nat} {a0 a1 a2 a3 a4 a5 a6 a7 a8 a9 : Value} {t : TypeId} {fr : Nat × Nat} (h : w.heap[g]? = some (.cells #[a0, a1, a2, a3, a4, a5, a6, a7, a8, a9] t fr)) :
    w.cell? ⟨g, 0, none⟩ = some a0 ∧ w.cell? ⟨g, 1, none⟩ = some a1 ∧ w.cell? ⟨g, 2, none⟩ = some a2 ∧ w.cell? ⟨g, 3, none⟩ = some a3 ∧ w.cell? ⟨g, 4, none⟩ = some a4 ∧ w.cell? ⟨g, 5, none⟩ = some a5 ∧ w.cell? ⟨g, 6, none⟩ = some a6 ∧ w.cell? ⟨g, 7, none⟩ = some a7 ∧ w.cell? ⟨g, 8, none⟩ = some a8 ∧ w.cell? ⟨g, 9, none⟩ = some a9 := by
  refine ⟨?_, ?_, ?_, ?_, ?_, ?_, ?_, ?_, ?_, ?_⟩ <;> (rw [cell_of_row _ _ _ _ _ _ h]; rfl)
theorem find_t (g p : Nat) (x : Lg) (sa : Option Addr) (sc n : Nat) (w : World) (hg : w.heap[g]? = some (.cells (x.c p sa sc) tLg (0, 0))) (hr : RdG KS w sa x.L) (hs : x.L.Pairwise (fun x y => x.n < y.n)) (hl : x.L.length ≤ 1000000) :
    Calls Tryd.prog 45 #[.pointer (some ⟨g, 0, none⟩), .int .u64 (n : Int)] w fun e w' => ∃ i : Nat, e = .returned (.tuple #[.int .i64 (i : Int), .bool (bsF x.L n i)]) ∧ BsIs x.L n i ∧ Below w.heap.size w w' := by
  have HB : Hid (Calls _ _ _ w _) := bs_t sa x.L.length sc x.L n rfl hs hl w hr
  obtain ⟨-, -, -, -, -, -, -, -, c8, -⟩ := cells10 hg
  clear hg hr hs hl
  go_enter Tryd.func45, Tryd.ntmps45
  go_wp2_with (go_at_call 63; refine Calls.mono HB.out ?_; rintro e w' ⟨i, rfl, hq⟩; have HQ : Hid _ := hq; clear hq)
  go_ret2
  exact ⟨i, rfl, HQ.out⟩
theorem heard_t (g p : Nat) (x : Lg) (sa : Option Addr) (sc : Nat) (e0 : Nat) (w : World) (hg : w.heap[g]? = some (.cells (x.c p sa sc) tLg (0, 0))) :
    Calls Tryd.prog 49 #[.pointer (some ⟨g, 0, none⟩), .int .i64 (e0 : Int)] w fun e w' => e = .returned (.int .i64 (e0 : Int)) ∧ w'.heap[g]? = some (.cells ((x.hear e0).c p sa sc) tLg (0, 0)) ∧ w.grownBy w' (some g) := by
  by_cases h : e0 = 5
  · subst h
    have hf := fun i => frz hg i
    obtain ⟨-, -, -, -, -, -, -, -, -, c9⟩ := cells10 hg
    have HG : Hid (w.heap[g]? = some (.cells (x.c p sa sc) tLg (0, 0))) := hg
    clear hg
    go_enter Tryd.func49, Tryd.ntmps49
    go_wp2_with fail
    go_ret
    refine ⟨rfl, ?_, ?_⟩
    · exact heap_setCell_same w g 9 _ _ (.bool true) HG.out
    · exact gset1 w g 9 _
  · have h5 : ¬ (e0 : Int) = 5 := by omega
    have HX : Hid (x.hear e0 = x) := if_neg h5
    have HG : Hid (w.heap[g]? = some (.cells (x.c p sa sc) tLg (0, 0))) := hg
    clear hg h
    go_enter Tryd.func49, Tryd.ntmps49
    go_wp2_with fail
    go_ret
    exact ⟨rfl, by rw [HX.out]; exact HG.out, World.grownBy.refl _ _⟩
theorem smade_t (g p : Nat) (x : Lg) (sa : Option Addr) (sc : Nat) (w : World) (hg : w.heap[g]? = some (.cells (x.c p sa sc) tLg (0, 0))) :
    Calls Tryd.prog 31 #[.pointer (some ⟨g, 0, none⟩)] w fun e w' => e = .returned (.bool true) ∧ w' = w := by
  obtain ⟨c0, -⟩ := cells10 hg
  clear hg
  go_enter Tryd.func31, Tryd.ntmps31
  go_wp2
  go_ret
  exact ⟨by first | rfl | simp, rfl⟩
end Go.Proofs.YtibepnilhmbpeaaDoor
namespace Go.Proofs.YtibepnilhmbpeaaDoor
set_option linter.unusedVariables false
set_option linter.unusedSimpArgs false
open Go.RowKit
theorem sfirst_t (g p : Nat) (x : Lg) (sa : Option Addr) (sc : Nat) (w : World) (hg : w.heap[g]? = some (.cells (x.c p sa sc) tLg (0, 0))) : Calls Tryd.prog 25 #[.pointer (some ⟨g, 0, none⟩)] w fun e w' => e = .returned (.int .u64 (x.h.f : Int)) ∧ w' = w := by
  have HM : Hid (Calls _ _ _ w _) := smade_t g p x sa sc w hg
  obtain ⟨-, -, -, c3, c4, c5, c6, c7, -, -⟩ := cells10 hg
  clear hg
  go_enter Tryd.func25, Tryd.ntmps25
  go_wp2_with (go_at_call 31; refine Calls.mono HM.out ?_; rintro e w' ⟨rfl, hq⟩; have hq := hq.symm; subst hq)
  go_ret
  exact ⟨rfl, rfl⟩
theorem snext_t (g p : Nat) (x : Lg) (sa : Option Addr) (sc : Nat) (w : World) (hg : w.heap[g]? = some (.cells (x.c p sa sc) tLg (0, 0))) : Calls Tryd.prog 26 #[.pointer (some ⟨g, 0, none⟩)] w fun e w' => e = .returned (.int .u64 (x.nx : Int)) ∧ w' = w := by
  have HM : Hid (Calls _ _ _ w _) := smade_t g p x sa sc w hg
  obtain ⟨-, -, -, c3, c4, c5, c6, c7, -, -⟩ := cells10 hg
  clear hg
  go_enter Tryd.func26, Tryd.ntmps26
  go_wp2_with (go_at_call 31; refine Calls.mono HM.out ?_; rintro e w' ⟨rfl, hq⟩; have hq := hq.symm; subst hq)
  go_ret
  exact ⟨rfl, rfl⟩
theorem sepoch_t (g p : Nat) (x : Lg) (sa : Option Addr) (sc : Nat) (w : World) (hg : w.heap[g]? = some (.cells (x.c p sa sc) tLg (0, 0))) : Calls Tryd.prog 27 #[.pointer (some ⟨g, 0, none⟩)] w fun e w' => e = .returned (.int .u64 (x.h.e : Int)) ∧ w' = w := by
  have HM : Hid (Calls _ _ _ w _) := smade_t g p x sa sc w hg
  obtain ⟨-, -, -, c3, c4, c5, c6, c7, -, -⟩ := cells10 hg
  clear hg
  go_enter Tryd.func27, Tryd.ntmps27
  go_wp2_with (go_at_call 31; refine Calls.mono HM.out ?_; rintro e w' ⟨rfl, hq⟩; have hq := hq.symm; subst hq)
  go_ret
  exact ⟨rfl, rfl⟩
theorem plLoadL (g p : Nat) (x : Lg) (sa : Option Addr) (sc : Nat) (w : World) (hg : w.heap[g]? = some (.cells (x.c p sa sc) tLg (0, 0))) : (Instr.loadAt tPl (.pointer (some ⟨g, 0, none⟩))).run Tryd.prog w = .ok (plV p x.A x.Z) w := by
  refine run_loadAt_mid w _ _ _ (plL p x.A x.Z) _ (fun q v hv => ?_) Tryd.underlying53 rfl infoPl
  obtain ⟨c0, c1, c2, -⟩ := cells10 hg
  rcases q with _ | _ | _ | q
  · cases hv; exact c0
  · cases hv; exact c1
  · cases hv; exact c2
  · exact absurd hv (by simp [plL])
end Go.Proofs.YtibepnilhmbpeaaDoor
