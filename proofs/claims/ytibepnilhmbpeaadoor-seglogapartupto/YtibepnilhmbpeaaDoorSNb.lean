import Derived.Test.YtibepnilhmbpeaaDoorSNa
import Derived.Test.YtibepnilhmbpeaaDoorSLa
namespace Go.Proofs.YtibepnilhmbpeaaDoor
set_option linter.unusedVariables false
set_option linter.unusedSimpArgs false
open Go.RowKit
/-- a record that was appended: its number, its epoch, its bytes -/
structure Itm where
  n : Nat
  e : Nat
  b : List UInt8
abbrev Itm.need (t : Itm) : Nat := needS t.b.length
structure Itm.ok (t : Itm) : Prop where
  len : t.b.length ≤ 8192
  n : t.n + 79 < 281474976710656
  e : t.e < 281474976710656
theorem needS_pos {L : Nat} (h : L ≤ 8192) : 1 ≤ needS L ∧ needS L ≤ 79 ∧ L ≤ needS L * 104 ∧ (needS L - 1) * 104 ≤ L := by
  unfold needS; rw [if_neg (by omega)]; omega
/-- the pieces of a record are what is read in their sectors -/
def RecAt (d : Dst) (A Z : Nat) (t : Itm) : Prop := ∀ i, i < t.need → rdD d (secN A Z (t.n + i)) = ⟨pcT (t.n + i) t.e t.b.length i (chk t.b i), false⟩
theorem RecAt.pc {d : Dst} {A Z : Nat} {t : Itm} (h : RecAt d A Z t) (ok : t.ok) (i : Nat) (hi : i < t.need) : pcE d A Z (t.n + i) = 0 ∧ pcL d A Z (t.n + i) = ⟨t.n + i, t.e, t.b.length, i⟩ ∧ pcX d A Z (t.n + i) = chk t.b i := by
  have h9 := h i hi
  have h1 := ok.len; have h2 := ok.n; have h3 := ok.e
  have hn := needS_pos h1
  have hi79 : i < 79 := by have : i < needS t.b.length := hi; omega
  have e1 : lbRd (pcT (t.n + i) t.e t.b.length i (chk t.b i)) = ⟨t.n + i, t.e, t.b.length, i⟩ := lbRd_pcT (by omega) h3 (by omega) (by omega)
  refine ⟨?_, ?_, ?_⟩
  · unfold pcE
    rw [h9, if_neg (by simp)]
    show (if pcOk (pcT (t.n + i) t.e t.b.length i (chk t.b i)) = true ∧ (lbRd (pcT (t.n + i) t.e t.b.length i (chk t.b i))).n = t.n + i then (0 : Int) else 50) = 0
    rw [e1, if_pos ⟨pcOk_pcT (by omega) h3 (by omega) (by omega) (chk_w _ _ _ _) hi, rfl⟩]
  · unfold pcL; rw [h9]; exact e1
  · unfold pcX; rw [h9]; exact pcDt_pcT (by omega) h3 (by omega) (by omega) (chk_w _ _ _ _)
theorem RecAt.front {d : Dst} {A Z : Nat} {t : Itm} (h : RecAt d A Z t) (ok : t.ok) (lo hi : Nat) (h1 : lo ≤ t.e) (h2 : t.e ≤ hi) : frE d A Z t.n lo hi = 0 ∧ pcL d A Z t.n = ⟨t.n, t.e, t.b.length, 0⟩ := by
  obtain ⟨e1, e2, -⟩ := h.pc ok 0 (by have := needS_pos ok.len; exact this.1)
  rw [Nat.add_zero] at e1 e2
  refine ⟨?_, e2⟩
  unfold frE
  rw [if_neg (fun h9 => h9 e1), e2, if_neg]
  rintro (h9 | h9 | h9)
  · exact h9 rfl
  · have h9 : t.e < lo := h9; omega
  · have h9 : hi < t.e := h9; omega
theorem RecAt.parts {d : Dst} {A Z : Nat} {t : Itm} (h : RecAt d A Z t) (ok : t.ok) : ∀ k, k < t.need → ptsE d A Z ⟨t.n, t.e, t.b.length, 0⟩ k = 0 ∧ ptsX d A Z ⟨t.n, t.e, t.b.length, 0⟩ k = t.b.take ((k + 1) * 104)
  | 0, hk => by
    obtain ⟨-, -, e3⟩ := h.pc ok 0 hk
    refine ⟨rfl, ?_⟩
    show pcX d A Z t.n = _
    rw [Nat.add_zero] at e3
    rw [e3]
    unfold chk
    rw [Nat.zero_mul, List.drop_zero, Nat.zero_add, Nat.one_mul]
  | k + 1, hk => by
    obtain ⟨i1, i2⟩ := RecAt.parts h ok k (by omega)
    obtain ⟨e1, e2, e3⟩ := h.pc ok (k + 1) hk
    refine ⟨?_, ?_⟩
    · rw [ptsE_next i1]
      unfold ptE ptQ
      show (if pcE d A Z (t.n + (k + 1)) ≠ 0 then pcE d A Z (t.n + (k + 1)) else if (pcL d A Z (t.n + (k + 1))).same ⟨t.n + (k + 1), t.e, t.b.length, k + 1⟩ then 0 else 50) = 0
      rw [if_neg (fun h9 => h9 e1), e2, if_pos ⟨⟨rfl, rfl⟩, rfl, rfl⟩]
    · show ptsX d A Z ⟨t.n, t.e, t.b.length, 0⟩ k ++ pcX d A Z (t.n + (k + 1)) = _
      rw [i2, e3]
      unfold chk
      have e : (k + 1 + 1) * 104 = (k + 1) * 104 + 104 := by omega
      rw [e, List.take_add]
theorem RecAt.read {d : Dst} {A Z : Nat} {t : Itm} (h : RecAt d A Z t) (ok : t.ok) (hi : Nat) (h2 : t.e ≤ hi) : rcE d A Z t.n hi = 0 ∧ rcX d A Z t.n = t.b := by
  obtain ⟨e1, e2⟩ := h.front ok 0 hi (Nat.zero_le _) h2
  have hn := needS_pos ok.len
  obtain ⟨p1, p2⟩ := h.parts ok (t.need - 1) (by show needS t.b.length - 1 < needS t.b.length; omega)
  refine ⟨?_, ?_⟩
  · unfold rcE
    rw [if_neg (fun h9 => h9 e1), e2]
    exact p1
  · unfold rcX
    rw [e2]
    refine p2.trans ?_
    have e : needS t.b.length - 1 + 1 = needS t.b.length := by omega
    rw [e, List.take_of_length_le hn.2.2.1]
theorem RecAt.of_eq {d d' : Dst} {A Z : Nat} {t : Itm} (h : RecAt d A Z t) (he : ∀ i, i < t.need → rdD d' (secN A Z (t.n + i)) = rdD d (secN A Z (t.n + i))) : RecAt d' A Z t := fun i hi => (he i hi).trans (h i hi)
/-! heads -/
theorem headT_eq (g e f l size : Nat) : ∃ r, headT g e f l size = hdM ++ (layL g 6 ++ (layL e 6 ++ (layL f 6 ++ (layL l 6 ++ r)))) := by
  refine ⟨layL size 4 ++ List.replicate (124 - (headB g e f l size).length) 0 ++ sealL (padT (headB g e f l size)), ?_⟩
  show padT (headB g e f l size) ++ sealL (padT (headB g e f l size)) = _
  have e9 : padT (headB g e f l size) = headB g e f l size ++ List.replicate (124 - (headB g e f l size).length) 0 := rfl
  generalize sealL (padT (headB g e f l size)) = q
  rw [e9]
  generalize List.replicate (124 - (headB g e f l size).length) (0 : UInt8) = z
  unfold headB
  simp only [List.append_assoc]
structure Hd.sm (h : Hd) : Prop where
  g : h.g < 281474976710656
  e : h.e < 281474976710656
  f : h.f < 281474976710656
  l : h.l < 281474976710656
theorem hdRd_text {h : Hd} (hk : h.sm) (Z : Nat) : hdRd (h.text Z) = h := by
  obtain ⟨g, e, f, l⟩ := h
  obtain ⟨h1, h2, h3, h4⟩ := hk
  dsimp only at h1 h2 h3 h4
  obtain ⟨r, eq⟩ := headT_eq g e f l Z
  have tx : (⟨g, e, f, l⟩ : Hd).text Z = headT g e f l Z := rfl
  rw [tx]
  unfold hdRd
  have n1 : hdN (headT g e f l Z) 4 6 = g := by
    rw [eq, hdN_at hdM (layL g 6) _ 4 6 rfl (by rw [layL_len])]; exact low_lay 6 g (by omega)
  have n2 : hdN (headT g e f l Z) 10 6 = e := by
    rw [eq, ← List.append_assoc, hdN_at (hdM ++ layL g 6) (layL e 6) _ 10 6 (by simp [layL_len]) (by rw [layL_len])]; exact low_lay 6 e (by omega)
  have n3 : hdN (headT g e f l Z) 16 6 = f := by
    rw [eq, ← List.append_assoc, ← List.append_assoc, hdN_at (hdM ++ layL g 6 ++ layL e 6) (layL f 6) _ 16 6 (by simp [layL_len]) (by rw [layL_len])]; exact low_lay 6 f (by omega)
  have n4 : hdN (headT g e f l Z) 22 6 = l := by
    rw [eq, ← List.append_assoc, ← List.append_assoc, ← List.append_assoc, hdN_at (hdM ++ layL g 6 ++ layL e 6 ++ layL f 6) (layL l 6) _ 22 6 (by simp [layL_len]) (by rw [layL_len])]; exact low_lay 6 l (by omega)
  rw [n1, n2, n3, n4]
theorem hdOk_text {h : Hd} (hk : h.sm) (hg : 0 < h.g) (Z : Nat) : hdOk (h.text Z) Z = true := by
  unfold hdOk
  rw [hdRd_text hk Z]
  simp [hg]
theorem hdN_zero (i k : Nat) : hdN zerT i k = 0 := by
  unfold hdN zerT
  rw [List.drop_replicate, List.take_replicate]
  generalize min k (128 - i) = m
  induction m with
  | zero => rfl
  | succ m ih => rw [List.replicate_succ]; unfold lowS; rw [ih]; rfl
theorem hdOk_zero (Z : Nat) : hdOk zerT Z = false := by
  unfold hdOk hdRd
  rw [hdN_zero]
  rfl
theorem pcOk_zero : pcOk zerT = false := by
  have h : ∀ N E L I ds, (zerT == pcT N E L I ds) = false := fun N E L I ds => by
    rw [beq_eq_false_iff_ne]
    intro h9
    obtain ⟨r, e⟩ := pcT_eq N E L I ds
    rw [e] at h9
    have h8 := congrArg (fun l : List UInt8 => l[0]?) h9
    simp [zerT] at h8
  unfold pcOk
  rw [h, Bool.and_false]
/-- the newest head lies in its slot; the other slot has none, or an older one -/
theorem cntH_new {d : Dst} {A Z : Nat} {h : Hd} (hk : h.sm) (hg : 0 < h.g) (ht : rdD d (A + h.g % 2) = ⟨h.text Z, false⟩)
    (ho : (rdD d (A + (1 - h.g % 2))).torn = true ∨ hdOk (rdD d (A + (1 - h.g % 2))).text Z = false ∨ (hdRd (rdD d (A + (1 - h.g % 2))).text).g < h.g) : cntH d A Z = h := by
  have hr := hdRd_text hk Z
  have hok := hdOk_text hk hg Z
  have h1 : ∀ o, o < h.g → slotB d A Z (h.g % 2) o = true := fun o hlt => by
    unfold slotB; rw [ht]; show (!false && (hdOk (h.text Z) Z && (decide ((hdRd (h.text Z)).g % 2 = h.g % 2) && decide (o < (hdRd (h.text Z)).g)))) = true
    rw [hr, hok]; simp [hlt]
  have h2 : slotB d A Z (1 - h.g % 2) h.g = false := by
    unfold slotB
    rcases ho with h9 | h9 | h9
    · rw [h9]; rfl
    · rw [h9]; simp
    · have : decide (h.g < (hdRd (rdD d (A + (1 - h.g % 2))).text).g) = false := decide_eq_false (by omega)
      rw [this]; simp
  have h3 : ∀ o, slotB d A Z (1 - h.g % 2) o = true → (hdRd (rdD d (A + (1 - h.g % 2))).text).g < h.g := fun o h9 => by
    unfold slotB at h9
    rcases ho with h8 | h8 | h8
    · rw [h8] at h9; cases h9
    · rw [h8] at h9; simp at h9
    · exact h8
  have h01 : h.g % 2 = 0 ∨ h.g % 2 = 1 := by omega
  unfold cntH
  rcases h01 with e | e
  · rw [e] at h1 h2
    have c1 : cntK d A Z 1 = h := by
      rw [show (1 : Nat) = 0 + 1 from rfl, cntK_yes (h1 _ hg)]
      rw [e] at ht
      rw [ht]; exact hr
    rw [show (2 : Nat) = 1 + 1 from rfl, cntK_no (by rw [c1]; exact h2)]
    exact c1
  · rw [e] at h1 h2 h3
    have c1 : (cntK d A Z 1).g < h.g := by
      rcases hb : slotB d A Z 0 (cntK d A Z 0).g with _ | _
      · rw [show (1 : Nat) = 0 + 1 from rfl, cntK_no hb]; exact hg
      · rw [show (1 : Nat) = 0 + 1 from rfl, cntK_yes hb]; exact h3 _ hb
    rw [show (2 : Nat) = 1 + 1 from rfl, cntK_yes (h1 _ c1)]
    rw [e] at ht
    rw [ht]; exact hr
end Go.Proofs.YtibepnilhmbpeaaDoor
