import Derived.Test.YtibepnilhmbpeaaDoorSMh
import Derived.Test.YtibepnilhmbpeaaDoorSNd
namespace Go.Proofs.YtibepnilhmbpeaaDoor
set_option linter.unusedVariables false
set_option linter.unusedSimpArgs false
open Go.RowKit
/-! a log that was formatted and opened: pure -/
theorem wrO_wip (A f j : Nat) (s : Sec) : ∀ k, wrO j s (wipL A f k) = if A + f ≤ j ∧ j < A + f + k then ⟨zerT, false⟩ else s
  | 0 => by rw [if_neg (by omega)]; rfl
  | k + 1 => by
    unfold wipL
    rw [wrO_app, wrO_wip A f j s k]
    show (if (false = false ∧ A + (f + k) = j) then (⟨zerT, false⟩ : Sec) else _) = _
    by_cases h : A + (f + k) = j
    · rw [if_pos ⟨rfl, h⟩, if_pos (by omega)]
    · rw [if_neg (fun h9 => h h9.2)]
      by_cases h2 : A + f ≤ j ∧ j < A + f + k
      · rw [if_pos h2, if_pos (by omega)]
      · rw [if_neg h2, if_neg (by omega)]
theorem wrO_fl (j : Nat) (s : Sec) : wrO j s [.f] = s := by
  show (if (true = false ∧ 0 = j) then (⟨[], false⟩ : Sec) else s) = s
  rw [if_neg (fun h => by cases h.1)]
theorem wrO_hd (A Z j : Nat) (h : Hd) (s : Sec) : wrO j s (hdO A Z h) = if A + h.g % 2 = j then ⟨h.text Z, false⟩ else s := by
  show (if (true = false ∧ 0 = j) then (⟨[], false⟩ : Sec) else (if (false = false ∧ A + h.g % 2 = j) then (⟨h.text Z, false⟩ : Sec) else s)) = _
  rw [if_neg (fun h => by cases h.1)]
  by_cases h9 : A + h.g % 2 = j
  · rw [if_pos ⟨rfl, h9⟩, if_pos h9]
  · rw [if_neg (fun h8 => h9 h8.2), if_neg h9]
abbrev fmH : Hd := ⟨1, 0, 0, 0⟩
/-- behind a Format -/
structure Fmt (d d1 : Dst) (a z : Nat) : Prop where
  pw : Pow d1
  len : d1.S.length = d.S.length
  hd : rdD d1 (a + 1) = ⟨fmH.text z, false⟩
  zr : ∀ j, a ≤ j → j < a + z → j ≠ a + 1 → rdD d1 j = ⟨zerT, false⟩
  out : ∀ j, j < d.S.length → (j < a ∨ a + z ≤ j) → rdD d1 j = rdD d j
theorem fmt_run {d : Dst} (hp : Pow d) {a z : Nat} (hz : 3 ≤ z) (haz : a + z ≤ d.S.length) : Ran d (fmtL d a z) ∧ Fmt d (runO d (fmtL d a z)).1 a z := by
  have hr := Pow.run (fmtL d a z) d hp
  have hs := lastS_le (cntH d a z)
  have key : ∀ j, j < d.S.length → rdD (runO d (fmtL d a z)).1 j = if a + 1 = j then ⟨fmH.text z, false⟩ else if a ≤ j ∧ j < a + z then ⟨zerT, false⟩ else rdD d j := fun j hj => by
    rw [hr.rd j hj]
    unfold fmtL fmA fmB
    generalize lastS (cntH d a z) = s at hs
    rw [wrO_app, wrO_app, wrO_app, wrO_app, wrO_app, wrO_app, wrO_hd, wrO_fl, wrO_fl, wrO_fl, wrO_wip, wrO_wip, wrO_wip]
    show (if a + 1 = j then _ else _) = _
    by_cases h1 : a + 1 = j
    · rw [if_pos h1, if_pos h1]
    · rw [if_neg h1, if_neg h1]
      by_cases h2 : a ≤ j ∧ j < a + z
      · rw [if_pos h2]
        by_cases h3 : a + 2 ≤ j ∧ j < a + 2 + (z - 2)
        · rw [if_pos h3]
        · rw [if_neg h3]
          by_cases h4 : a + s ≤ j ∧ j < a + s + 1
          · rw [if_pos h4]
          · rw [if_neg h4, if_pos (by omega)]
      · rw [if_neg h2, if_neg (by omega), if_neg (by omega), if_neg (by omega)]
  refine ⟨hr, hr.pow, runO_len _ _, ?_, fun j h1 h2 h3 => ?_, fun j h1 h2 => ?_⟩
  · rw [key _ (by omega), if_pos rfl]
  · rw [key _ (by omega), if_neg (by omega), if_pos ⟨h1, h2⟩]
  · rw [key _ h1, if_neg (by omega), if_neg (by omega)]
/-- a sector of zeros has no piece -/
theorem pcE_zero {d : Dst} {A Z n : Nat} (h : rdD d (secN A Z n) = ⟨zerT, false⟩) : pcE d A Z n ≠ 0 := by
  unfold pcE
  rw [h, if_neg (by simp), if_neg (fun h9 => by have := h9.1; rw [pcOk_zero] at this; cases this)]
  decide
theorem stS_zero {d : Dst} {A Z : Nat} {h : Hd} (hz : rdD d (secN A Z h.f) = ⟨zerT, false⟩) : stS d A Z h = ([], h.f) := by
  unfold stS
  refine stGo_stop (.inl ?_)
  unfold frE
  rw [if_pos (pcE_zero hz)]
  exact pcE_zero hz
abbrev opH0 : Hd := ⟨2, 1, 0, 1⟩
/-- Open behind Format -/
theorem Fmt.cnt {d d1 : Dst} {a z : Nat} (h : Fmt d d1 a z) (hz : 3 ≤ z) : cntH d1 a z = fmH :=
  cntH_new (h := fmH) ⟨by decide, by decide, by decide, by decide⟩ (by decide) h.hd (.inr (.inl (by
    have e := h.zr a (Nat.le_refl _) (by omega) (by omega)
    show hdOk (rdD d1 (a + 0)).text z = false
    rw [Nat.add_zero, e]; exact hdOk_zero z)))
theorem Fmt.sts {d d1 : Dst} {a z : Nat} (h : Fmt d d1 a z) (hz : 3 ≤ z) : stS d1 a z fmH = ([], 0) := by
  refine stS_zero (h := fmH) (h.zr _ ?_ ?_ ?_)
  · have := (secN_lt (A := a) (n := 0) hz).1; show a ≤ secN a z 0; omega
  · exact (secN_lt (A := a) (n := 0) hz).2
  · have := (secN_lt (A := a) (n := 0) hz).1; show secN a z 0 ≠ _; omega
theorem Fmt.oh {d d1 : Dst} {a z : Nat} (h : Fmt d d1 a z) (hz : 3 ≤ z) : opH d1 a z = opH0 := by
  unfold opH opX Lg.newH
  rw [h.cnt hz, h.sts hz]
  rfl
theorem Fmt.oy {d d1 : Dst} {a z : Nat} (h : Fmt d d1 a z) (hz : 3 ≤ z) : opY d1 a z = ⟨a, z, opH0, 0, [], false⟩ := by
  unfold opY
  rw [h.oh hz]
  unfold opX
  rw [h.cnt hz, h.sts hz]
/-- a new log lives -/
theorem Fmt.liv {d d1 : Dst} {a z : Nat} (h : Fmt d d1 a z) (hz : 3 ≤ z) (haz : a + z ≤ d.S.length) (hN : d.S.length ≤ 65536) : Ran d1 (hdO a z opH0) ∧ Liv (runO d1 (hdO a z opH0)).1 ⟨a, z, opH0, 0, [], false⟩ [] := by
  have hr := Pow.run (hdO a z opH0) d1 h.pw
  exact ⟨hr, hr.pow, rfl, rfl, rfl, Nat.zero_le _, (fun t ht => by cases ht), (fun t ht => by cases ht), hz, by rw [runO_len, h.len]; exact haz, by rw [runO_len, h.len]; exact hN, by show 1 < 281474976710656; decide⟩
theorem Fmt.open_ {d d1 : Dst} {a z : Nat} (h : Fmt d d1 a z) (hz : 3 ≤ z) (hpl : plE d1 (a : Int) (z : Int) = 0) : opEZ d1 (a : Int) (z : Int) = 0 := by
  unfold opEZ
  rw [if_neg (fun h9 => h9 hpl)]
  show openE d1 a z = 0
  unfold openE
  rw [h.cnt hz, if_neg (by decide), if_neg (by decide), h.oh hz, (Pow.run (hdO a z opH0) d1 h.pw).ok]
  rfl
/-- Format and Open of a disk with power -/
structure Beg (d : Dst) (A : Int) (a z : Nat) (d1 d2 : Dst) : Prop where
  fe : fmE d A (z : Int) = 0
  fd : fmD d A (z : Int) = d1
  oe : opEZ d1 A (z : Int) = 0
  oy : opY d1 A.toNat (z : Int).toNat = ⟨a, z, opH0, 0, [], false⟩
  od : (runO d1 (hdO A.toNat (z : Int).toNat (opH d1 A.toNat (z : Int).toNat))).1 = d2
  lv : Liv d2 ⟨a, z, opH0, 0, [], false⟩ []
  l1 : d1.S.length = d.S.length
  l2 : d2.S.length = d.S.length
  p1 : Pow d1
  ot : ∀ j, j < d.S.length → (j < a ∨ a + z ≤ j) → rdD d2 j = rdD d j
theorem beg_ok {d : Dst} (hp : Pow d) {A : Int} {a z : Nat} (hA : A = (a : Int)) (hz : 3 ≤ z) (haz : a + z ≤ d.S.length) (hN : d.S.length ≤ 65536) : ∃ d1 d2, Beg d A a z d1 d2 := by
  subst hA
  obtain ⟨hr, hf⟩ := fmt_run hp hz haz
  have hpl : ∀ e : Dst, Pow e → e.S.length = d.S.length → plE e (a : Int) (z : Int) = 0 := fun e he hl => by
    unfold plE
    rw [if_neg (by rw [hl]; omega), if_neg (by rw [he.on]; decide)]
  have h0 := hpl d hp rfl
  have h1 := hpl _ hf.pw hf.len
  obtain ⟨hr2, hl⟩ := hf.liv hz haz hN
  refine ⟨(runO d (fmtL d a z)).1, (runO (runO d (fmtL d a z)).1 (hdO a z opH0)).1, ?_, ?_, hf.open_ hz h1, hf.oy hz, ?_, hl, hf.len, by rw [runO_len, hf.len], hf.pw, fun j hj ho => ?_⟩
  · unfold fmE
    rw [if_neg (fun h => h h0)]
    show opE (runO d (fmtL d a z)).2 = 0
    rw [hr.ok]; rfl
  · unfold fmD
    rw [if_neg (fun h => h h0)]
    rfl
  · show (runO _ (hdO a z (opH _ a z))).1 = _
    rw [hf.oh hz]
  · rw [hr2.rd j (by rw [hf.len]; exact hj), wrO_hd]
    show (if a + 0 = j then _ else _) = _
    rw [if_neg (by omega)]
    exact hf.out j hj ho
end Go.Proofs.YtibepnilhmbpeaaDoor
