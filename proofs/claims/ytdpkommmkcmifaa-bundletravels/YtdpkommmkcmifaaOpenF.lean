import Derived.Test.YtdpkommmkcmifaaBackN
import Derived.Test.YtdpkommmkcmifaaWrapB
import Derived.Test.YtdpkommmkcmifaaWr
namespace Go.Proofs.Ytdpkommmkcmifaa
set_option linter.unusedVariables false
set_option linter.unusedSimpArgs false
open Go.RowKit
theorem dgs80 : dgs [8, 0] = [8, 0] := by have := dgs_80; simpa using this
theorem dgs00 : dgs [0] = [0] := by have := dgs_0; simpa using this
theorem wr_blks : GoodBlks [⟨10, 2, 0, [8, 0]⟩, ⟨7, 3, 0, [0]⟩] := by
  refine ⟨by decide, fun i hi => ?_⟩
  have h10 : dataS 10 [8, 0] = true := by
    have h := hop_new 8 0 (by decide) (by decide) (by decide)
    rw [dgs80] at h
    unfold dataS holdsS
    simp [h]
  have h7 : dataS 7 [0] = true := by
    have h := age_new 0 (by decide)
    rw [dgs00] at h
    unfold dataS holdsS
    simp [h]
  have hi2 : i = 0 ∨ i = 1 := by simp at hi; omega
  rcases hi2 with rfl | rfl
  · unfold blkS
    simp [h10, typeS, numbS, knownB, placeS]
  · unfold blkS
    simp [h7, typeS, numbS, knownB, placeS]
/-- a wrapped frame is a good bundle -/
theorem wrB_good {st : Int} {tm sq lf : Nat} {d : List UInt8} {fr tt : Nat} {nw : Bool} (hf : fitF st tm sq lf) (h1 : fr ≤ 281474976710655) (h2 : tt ≤ 281474976710655) (hd : d.length ≤ 512) : GoodB (wrB st tm sq lf d fr tt nw) := by
  obtain ⟨g1, g2, g3, g4, g5⟩ := hf
  refine ⟨?_, ?_, ?_, wr_blks, hd⟩
  · unfold wrB
    simp only
    split <;> decide
  · unfold wrB numsS
    simp
    omega
  · unfold wrB numsS
    simp
    omega
theorem wrB_ok {st : Int} {tm sq lf : Nat} {d : List UInt8} {fr tt : Nat} {nw : Bool} (hf : fitF st tm sq lf) (h1 : fr ≤ 281474976710655) (h2 : tt ≤ 281474976710655) (hd : d.length ≤ 512) : (wrB st tm sq lf d fr tt nw).ok := by
  obtain ⟨g1, g2, g3, g4, g5⟩ := hf
  refine ⟨?_, ?_, ?_, ?_, ?_, ?_, ?_, ?_, ?_, ?_, ?_, ?_, ?_⟩ <;> unfold wrB <;> simp only
  · split <;> omega
  · omega
  · omega
  · omega
  · omega
  · omega
  · omega
  · omega
  · omega
  · omega
  · intro x hx
    simp at hx
    rcases hx with rfl | rfl <;> exact ⟨by decide, by decide, by decide, by decide⟩
  · decide
  · omega
theorem wrB_len {st : Int} {tm sq lf : Nat} {d : List UInt8} {fr tt : Nat} {nw : Bool} (hf : fitF st tm sq lf) (h1 : fr ≤ 281474976710655) (h2 : tt ≤ 281474976710655) (hd : d.length ≤ 512) : (encB (wrB st tm sq lf d fr tt nw)).length ≤ 1024 := by
  have hok := wrB_ok (nw := nw) hf h1 h2 hd
  have hh := dgs_len _ (hdr_lt hok)
  have hb := encBlks_len (wrB st tm sq lf d fr tt nw).bl (fun x hx => ⟨hok.bl x hx, by unfold wrB at hx; simp at hx; rcases hx with rfl | rfl <;> simp⟩)
  have hp := (dg_len (wrB st tm sq lf d fr tt nw).py.length (by have := hok.py; omega)).2
  have hl : (wrB st tm sq lf d fr tt nw).bl.length = 2 := rfl
  have hy : (wrB st tm sq lf d fr tt nw).py.length = d.length := rfl
  unfold encB
  simp only [List.length_append]
  simp only [List.length_cons, List.length_nil] at hh ⊢
  omega
end Go.Proofs.Ytdpkommmkcmifaa
namespace Go.Proofs.Ytdpkommmkcmifaa
set_option linter.unusedVariables false
set_option linter.unusedSimpArgs false
open Go.RowKit
theorem small_enc : encB (wrB 1 300 2 50 [7, 8, 9] 4 5 true) = [6, 7, 5, 1, 4, 1, 4, 0, 0x82, 0x2c, 2, 0x32, 2, 0x0a, 2, 0, 2, 8, 0, 7, 3, 0, 1, 0, 3, 7, 8, 9] := by decide
/-- a wrapped frame's bundle on its way -/
def trB (fl tt s fr tm sq lf : Nat) (h a d : List UInt8) : Bun := ⟨fl, tt, s, fr, s, fr, 0, tm, sq, lf, [⟨10, 2, 0, h⟩, ⟨7, 3, 0, a⟩], d⟩
theorem wrB_tr (st : Int) (tm sq lf : Nat) (d : List UInt8) (fr tt : Nat) (nw : Bool) : wrB st tm sq lf d fr tt nw = trB (if nw = true then 7 else 5) tt st.toNat fr tm sq lf [8, 0] [0] d := rfl
structure TrOk (fl tt s fr tm sq lf : Nat) (h a d : List UInt8) : Prop where
  fl : fl < 8
  tt : tt ≤ 281474976710655
  s : s < 8
  fr : fr ≤ 281474976710655
  tm : tm ≤ 281474976710655
  sq : sq ≤ 281474976710655
  lf : lf ≤ 281474976710655
  h : dataS 10 h = true
  a : dataS 7 a = true
  d : d.length ≤ 512
theorem data64 {t : Nat} {x : List UInt8} (h : dataS t x = true) : x.length ≤ 64 := by unfold dataS at h; simp at h; exact h.1
section
variable {fl tt s fr tm sq lf : Nat} {h a d : List UInt8}
theorem TrOk.good (k : TrOk fl tt s fr tm sq lf h a d) : GoodB (trB fl tt s fr tm sq lf h a d) := by
  obtain ⟨k1, k2, k3, k4, k5, k6, k7, k8, k9, k10⟩ := k
  refine ⟨k1, ?_, ?_, ⟨by simp [trB], fun i hi => ?_⟩, k10⟩
  · unfold trB numsS
    simp
    omega
  · unfold trB numsS
    simp
    omega
  · have hi2 : i = 0 ∨ i = 1 := by simp [trB] at hi; omega
    rcases hi2 with rfl | rfl
    · show blkS [] ⟨10, 2, 0, h⟩ = true
      unfold blkS
      simp [k8, typeS, numbS, knownB, placeS]
    · show blkS [⟨10, 2, 0, h⟩] ⟨7, 3, 0, a⟩ = true
      unfold blkS
      simp [k9, typeS, numbS, knownB, placeS]
theorem TrOk.bok (k : TrOk fl tt s fr tm sq lf h a d) : (trB fl tt s fr tm sq lf h a d).ok := by
  have hh := data64 k.h
  have ha := data64 k.a
  obtain ⟨k1, k2, k3, k4, k5, k6, k7, k8, k9, k10⟩ := k
  refine ⟨?_, ?_, ?_, ?_, ?_, ?_, ?_, ?_, ?_, ?_, ?_, ?_, ?_⟩ <;> unfold trB <;> simp only
  · omega
  · omega
  · omega
  · omega
  · omega
  · omega
  · omega
  · omega
  · omega
  · omega
  · intro x hx
    simp at hx
    rcases hx with rfl | rfl
    · exact ⟨show (10 : Nat) < _ by decide, show (2 : Nat) < _ by decide, show (0 : Nat) < _ by decide, show h.length ≤ _ by omega⟩
    · exact ⟨show (7 : Nat) < _ by decide, show (3 : Nat) < _ by decide, show (0 : Nat) < _ by decide, show a.length ≤ _ by omega⟩
  · exact (show (2 : Nat) ≤ 2932031007317 by decide)
  · omega
theorem TrOk.len (k : TrOk fl tt s fr tm sq lf h a d) : (encB (trB fl tt s fr tm sq lf h a d)).length ≤ 1024 := by
  have hok := k.bok
  have hh := dgs_len _ (hdr_lt hok)
  have hb := encBlks_len (trB fl tt s fr tm sq lf h a d).bl (fun x hx => ⟨hok.bl x hx, by unfold trB at hx; simp at hx; rcases hx with rfl | rfl; exact data64 k.h; exact data64 k.a⟩)
  have hp := (dg_len (trB fl tt s fr tm sq lf h a d).py.length (by have := hok.py; omega)).2
  have hl : (trB fl tt s fr tm sq lf h a d).bl.length = 2 := rfl
  have hy : (trB fl tt s fr tm sq lf h a d).py.length = d.length := rfl
  have hd := k.d
  unfold encB
  simp only [List.length_append]
  simp only [List.length_cons, List.length_nil] at hh ⊢
  omega
theorem TrOk.fits (k : TrOk fl tt s fr tm sq lf h a d) : fitsS (trB fl tt s fr tm sq lf h a d) = 0 := by
  unfold fitsS
  rw [if_neg (by have := k.len; omega)]
theorem TrOk.valid (k : TrOk fl tt s fr tm sq lf h a d) : ValidIs (trB fl tt s fr tm sq lf h a d) 0 := .inr ⟨k.good, k.fits.symm⟩
theorem TrOk.dec (k : TrOk fl tt s fr tm sq lf h a d) : decS (encB (trB fl tt s fr tm sq lf h a d)) = (trB fl tt s fr tm sq lf h a d, 0) := decS_enc _ k.good k.bok k.len
theorem tr_place10 : placeS (trB fl tt s fr tm sq lf h a d).bl 10 = 0 := by unfold trB placeS; rfl
theorem tr_place7 : placeS (trB fl tt s fr tm sq lf h a d).bl 7 = 1 := by unfold trB placeS; rfl
/-- a hop on the way -/
theorem TrOk.hop (k : TrOk fl tt s fr tm sq lf h a d) {o : Bun} {n : Int} (t : TurnIs (trB fl tt s fr tm sq lf h a d) 10 hopTurn o n) : (n = 6 ∧ hopTurn h = none) ∨ (n = 0 ∧ ∃ h', hopTurn h = some h' ∧ TrOk fl tt s fr tm sq lf h' a d ∧ o = trB fl tt s fr tm sq lf h' a d) := by
  rcases t with ⟨t1, t2, -⟩ | ⟨-, t2, -⟩ | ⟨-, i, hi, t2, t3, rfl, -⟩ | ⟨-, i, hi, t2, e, t3, t4, t5⟩
  · exact absurd (t1.same k.valid) t2
  · rw [tr_place10] at t2; cases t2
  · rw [tr_place10] at t2
    obtain rfl : i = 0 := by omega
    exact .inl ⟨rfl, t3⟩
  · rw [tr_place10] at t2
    obtain rfl : i = 0 := by omega
    have t3' : hopTurn h = some e := t3
    have k' : TrOk fl tt s fr tm sq lf e a d := ⟨k.fl, k.tt, k.s, k.fr, k.tm, k.sq, k.lf, hopTurn_ok k.h t3', k.a, k.d⟩
    have hs : setD (trB fl tt s fr tm sq lf h a d) 0 e = trB fl tt s fr tm sq lf e a d := rfl
    rw [hs] at t4 t5
    rw [k'.fits] at t4
    subst t4
    rw [if_pos rfl] at t5
    exact .inr ⟨rfl, e, t3', k', t5⟩
theorem TrOk.age {x : Nat} (k : TrOk fl tt s fr tm sq lf h a d) {o : Bun} {n : Int} (t : TurnIs (trB fl tt s fr tm sq lf h a d) 7 (ageTurn x) o n) : (n = 6 ∧ ageTurn x a = none) ∨ (n = 0 ∧ ∃ a', ageTurn x a = some a' ∧ TrOk fl tt s fr tm sq lf h a' d ∧ o = trB fl tt s fr tm sq lf h a' d) := by
  rcases t with ⟨t1, t2, -⟩ | ⟨-, t2, -⟩ | ⟨-, i, hi, t2, t3, rfl, -⟩ | ⟨-, i, hi, t2, e, t3, t4, t5⟩
  · exact absurd (t1.same k.valid) t2
  · rw [tr_place7] at t2; cases t2
  · rw [tr_place7] at t2
    obtain rfl : i = 1 := by omega
    exact .inl ⟨rfl, t3⟩
  · rw [tr_place7] at t2
    obtain rfl : i = 1 := by omega
    have t3' : ageTurn x a = some e := t3
    have k' : TrOk fl tt s fr tm sq lf h e d := ⟨k.fl, k.tt, k.s, k.fr, k.tm, k.sq, k.lf, k.h, ageTurn_ok t3', k.d⟩
    have hs : setD (trB fl tt s fr tm sq lf h a d) 1 e = trB fl tt s fr tm sq lf h e d := rfl
    rw [hs] at t4 t5
    rw [k'.fits] at t4
    subst t4
    rw [if_pos rfl] at t5
    exact .inr ⟨rfl, e, t3', k', t5⟩
end
end Go.Proofs.Ytdpkommmkcmifaa
namespace Go.Proofs.Ytdpkommmkcmifaa
set_option linter.unusedVariables false
set_option linter.unusedSimpArgs false
open Go.RowKit
def carS (b : Bun) : Bool := decide (b.fl % 2 = 1) && (decide (b.e1 = b.e3) && decide (b.e3 < 8))
theorem and1 : ∀ n : Nat, n < 8 → bits .and .u64 (n : Int) 1 = ((n % 2 : Nat) : Int) := by decide
theorem and2 : ∀ n : Nat, n < 8 → bits .and .u64 (n : Int) 2 = ((n / 2 % 2 * 2 : Nat) : Int) := by decide
set_option maxRecDepth 20000 in
set_option maxHeartbeats 800000 in
theorem carries_any (b : Bun) (ba : Option Addr) (bc : Nat) (pa : Option Addr) (pc : Nat) (w : World) (h8 : b.fl < 8) :
    Calls Try.prog 54 #[bunV b ba bc pa pc] w fun e w' => e = .returned (.bool (carS b)) ∧ Below w.heap.size w w' := by
  unfold bunV
  have ha := and1 b.fl h8
  obtain ⟨r, hr⟩ : ∃ r, r = b.fl % 2 := ⟨_, rfl⟩
  rw [← hr] at ha
  have hr2 : r = 0 ∨ r = 1 := by omega
  rcases hr2 with h0 | h0
  · have HV : Hid (carS b = false) := by unfold Hid carS; rw [← hr, h0]; simp
    subst h0
    clear hr
    go_enter Try.func54, Try.ntmps54
    go_wp2
    go_ret
    exact ⟨by rw [HV.out]; rfl, al (Below.refl _ _) _⟩
  · have HV : Hid (carS b = (decide (b.e1 = b.e3) && decide (b.e3 < 8))) := by unfold Hid carS; rw [← hr, h0]; simp
    subst h0
    clear hr
    by_cases h1 : b.e1 = b.e3
    · by_cases h2 : b.e3 < 8
      · go_enter Try.func54, Try.ntmps54
        go_wp2
        go_ret
        exact ⟨by rw [HV.out]; simp [h1, h2] <;> omega, al (Below.refl _ _) _⟩
      · go_enter Try.func54, Try.ntmps54
        go_wp2
        go_ret
        exact ⟨by rw [HV.out]; simp [h1, h2] <;> omega, al (Below.refl _ _) _⟩
    · go_enter Try.func54, Try.ntmps54
      go_wp2
      go_ret
      exact ⟨by rw [HV.out]; simp [h1] <;> omega, al (Below.refl _ _) _⟩
end Go.Proofs.Ytdpkommmkcmifaa
