import Derived.Test.YtibepnilhmbpeaaDoorSRe
import Derived.Test.YtibepnilhmbpeaaDoorSLa
namespace Go.Proofs.YtibepnilhmbpeaaDoor
set_option linter.unusedVariables false
set_option linter.unusedSimpArgs false
open Go.RowKit
/-! what is read behind what was written: pure -/
theorem presS_snoc (s : Sec) (vs : List (List UInt8)) (x : List UInt8) : presS s (vs ++ [x]) = ⟨x, false⟩ := by
  unfold presS afterS
  rw [List.length_append]
  rw [if_neg (by simp <;> omega), if_pos (by simp <;> omega)]
  congr 1
  rw [List.getD_eq_getElem?_getD]
  have e : (((vs.length + [x].length : Nat) : Int).toNat - 1) = vs.length := by simp
  rw [e, List.getElem?_append_right (Nat.le_refl _), Nat.sub_self]
  rfl
theorem presS_nil (s : Sec) : presS s [] = s := by simp [presS, afterS]
/-- a disk that has power and no fuse -/
structure Pow (d : Dst) : Prop where
  on : d.off = false
  fu : d.fuse = -1
theorem Pow.can {d : Dst} (h : Pow d) : d.can = true := by unfold Dst.can begE; rw [h.on, h.fu]; decide
theorem Pow.write {d : Dst} (h : Pow d) (i : Nat) (x : List UInt8) : Pow (d.write i x) := by
  unfold Dst.write; rw [if_pos h.can]; exact ⟨by show begO _ _ = _; unfold begO; rw [h.on, h.fu]; decide, by show begF _ _ = _; unfold begF; rw [h.on, h.fu]; decide⟩
theorem Pow.flush {d : Dst} (h : Pow d) : Pow d.flush := by
  unfold Dst.flush; rw [if_pos h.can]; exact ⟨by show begO _ _ = _; unfold begO; rw [h.on, h.fu]; decide, by show begF _ _ = _; unfold begF; rw [h.on, h.fu]; decide⟩
theorem rdD_write {d : Dst} (hc : d.can = true) (i j : Nat) (x : List UInt8) : rdD (d.write i x) j = if i = j then ⟨x, false⟩ else rdD d j := by
  unfold Dst.write rdD
  rw [if_pos hc]
  show presS (d.S.getD j Sec.zero) (upd d.C i (d.C i ++ [x]) j) = _
  unfold upd
  by_cases h : j = i
  · subst h; rw [if_pos rfl, if_pos rfl, presS_snoc]
  · rw [if_neg h, if_neg (fun e => h e.symm)]
theorem getD_mapIdxN (S : List Sec) (f : Nat → Sec → Sec) (i : Nat) (h : i < S.length) : (S.mapIdx f).getD i Sec.zero = f i (S.getD i Sec.zero) := by simp [h]
theorem rdD_flush {d : Dst} (hc : d.can = true) (j : Nat) (hj : j < d.S.length) : rdD d.flush j = rdD d j := by
  unfold Dst.flush rdD
  rw [if_pos hc]
  show presS ((flushed d.S d.C).getD j Sec.zero) [] = _
  rw [presS_nil]
  unfold flushed
  rw [getD_mapIdxN _ _ _ hj]
/-- what a row of operations leaves to be read in sector j -/
def wrO (j : Nat) : Sec → List Wop → Sec
  | s, [] => s
  | s, o :: r => wrO j (if o.fl = false ∧ o.i = j then ⟨o.x, false⟩ else s) r
theorem wrO_app (j : Nat) : ∀ (a b : List Wop) (s : Sec), wrO j s (a ++ b) = wrO j (wrO j s a) b
  | [], _, _ => rfl
  | o :: r, b, s => wrO_app j r b _
theorem Pow.act {d : Dst} (h : Pow d) (o : Wop) : Pow (Wop.act d o) := by
  unfold Wop.act; split
  · exact h.flush
  · exact h.write _ _
theorem rdD_act {d : Dst} (h : Pow d) (o : Wop) (j : Nat) (hj : j < d.S.length) : rdD (Wop.act d o) j = if o.fl = false ∧ o.i = j then ⟨o.x, false⟩ else rdD d j := by
  unfold Wop.act
  cases hf : o.fl with
  | true => rw [if_pos rfl, if_neg (fun h => by cases h.1)]; exact rdD_flush h.can j hj
  | false =>
    rw [if_neg (by simp), rdD_write h.can]
    by_cases e : o.i = j
    · rw [if_pos e, if_pos ⟨rfl, e⟩]
    · rw [if_neg e, if_neg (fun h => e h.2)]
/-- with power a row of operations is done -/
structure Ran (d : Dst) (a : List Wop) : Prop where
  ok : (runO d a).2 = true
  pow : Pow (runO d a).1
  rd : ∀ j, j < d.S.length → rdD (runO d a).1 j = wrO j (rdD d j) a
theorem Pow.run : ∀ (a : List Wop) (d : Dst), Pow d → Ran d a
  | [], d, h => ⟨rfl, h, fun _ _ => rfl⟩
  | o :: r, d, h => by
    have ih := Pow.run r (Wop.act d o) (h.act o)
    have e : runO d (o :: r) = runO (Wop.act d o) r := if_pos h.can
    refine ⟨by rw [e]; exact ih.ok, by rw [e]; exact ih.pow, fun j hj => ?_⟩
    rw [e, ih.rd j (by rw [Wop.act_len]; exact hj), rdD_act h o j hj]
    rfl
theorem secN_ne {A Z n m : Nat} (h1 : n < m) (h2 : m < n + (Z - 2)) : secN A Z n ≠ secN A Z m := by
  intro e
  unfold secN at e
  have e2 : m % (Z - 2) = n % (Z - 2) := by omega
  have h3 := Nat.sub_mod_eq_zero_of_mod_eq e2
  rw [Nat.mod_eq_of_lt (by omega)] at h3
  omega
/-- the bytes of a record's piece -/
def chk (rec : List UInt8) (i : Nat) : List UInt8 := (rec.drop (i * 104)).take 104
theorem chk_len (rec : List UInt8) (i : Nat) : (chk rec i).length ≤ 104 := by unfold chk; rw [List.length_take]; omega
theorem chk_w (rec : List UInt8) (n e i : Nat) : (chk rec i).length = (⟨n, e, rec.length, i⟩ : Lb).w := by
  unfold chk Lb.w
  rw [List.length_take, List.length_drop]
  show min 104 (rec.length - i * 104) = min (i * 104 + 104) rec.length - i * 104
  omega
/-- the writing of a record's first pieces -/
def recO (A Z nx ep : Nat) (rec : List UInt8) : Nat → List Wop
  | 0 => []
  | k + 1 => recO A Z nx ep rec k ++ [pcO A Z ⟨nx + k, ep, rec.length, k⟩ (chk rec k)]
theorem recO_out {A Z nx ep : Nat} {rec : List UInt8} {j : Nat} {s : Sec} : ∀ k, (∀ i, i < k → secN A Z (nx + i) ≠ j) → wrO j s (recO A Z nx ep rec k) = s
  | 0, _ => rfl
  | k + 1, h => by
    unfold recO
    rw [wrO_app, recO_out k (fun i hi => h i (by omega))]
    show (if (false = false ∧ secN A Z (nx + k) = j) then _ else s) = s
    rw [if_neg (fun h9 => h k (by omega) h9.2)]
theorem recO_in {A Z nx ep : Nat} {rec : List UInt8} {s : Sec} {i : Nat} : ∀ k, k ≤ Z - 2 → i < k → wrO (secN A Z (nx + i)) s (recO A Z nx ep rec k) = ⟨pcT (nx + i) ep rec.length i (chk rec i), false⟩
  | 0, _, h => absurd h (Nat.not_lt_zero _)
  | k + 1, hk, h => by
    unfold recO
    rw [wrO_app]
    show (if (false = false ∧ secN A Z (nx + k) = secN A Z (nx + i)) then (⟨pcT (nx + k) ep rec.length k (chk rec k), false⟩ : Sec) else _) = _
    by_cases e : i = k
    · subst e; rw [if_pos ⟨rfl, rfl⟩]
    · rw [if_neg (fun h9 => secN_ne (A := A) (Z := Z) (n := nx + i) (m := nx + k) (by omega) (by omega) h9.2.symm)]
      exact recO_in k (by omega) (by omega)
/-! the numbers in a piece's text -/
theorem hdN_at (a b c : List UInt8) (i k : Nat) (hi : i = a.length) (hk : k = b.length) : hdN (a ++ (b ++ c)) i k = lowS b := by
  subst hi; subst hk
  unfold hdN
  rw [List.drop_left, List.take_left]
theorem pcT_eq (N E L I : Nat) (ds : List UInt8) : ∃ r, pcT N E L I ds = pcM ++ (layL N 6 ++ (layL E 6 ++ (layL L 2 ++ (layL I 2 ++ (ds ++ r))))) := by
  refine ⟨List.replicate (124 - (pcD N E L I ++ ds).length) 0 ++ sealL (padT (pcD N E L I ++ ds)), ?_⟩
  show padT (pcD N E L I ++ ds) ++ sealL (padT (pcD N E L I ++ ds)) = _
  have e : padT (pcD N E L I ++ ds) = (pcD N E L I ++ ds) ++ List.replicate (124 - (pcD N E L I ++ ds).length) 0 := rfl
  generalize sealL (padT (pcD N E L I ++ ds)) = q
  rw [e]
  show (((((pcM ++ layL N 6) ++ layL E 6) ++ layL L 2) ++ layL I 2) ++ ds ++ _) ++ q = _
  simp only [List.append_assoc]
theorem lbRd_pcT {N E L I : Nat} {ds : List UInt8} (hN : N < 281474976710656) (hE : E < 281474976710656) (hL : L < 65536) (hI : I < 65536) : lbRd (pcT N E L I ds) = ⟨N, E, L, I⟩ := by
  obtain ⟨r, e⟩ := pcT_eq N E L I ds
  unfold lbRd
  have n1 : hdN (pcT N E L I ds) 4 6 = N := by
    rw [e, hdN_at pcM (layL N 6) _ 4 6 rfl (by rw [layL_len])]; exact low_lay 6 N (by omega)
  have n2 : hdN (pcT N E L I ds) 10 6 = E := by
    rw [e, ← List.append_assoc, hdN_at (pcM ++ layL N 6) (layL E 6) _ 10 6 (by simp [layL_len]) (by rw [layL_len])]; exact low_lay 6 E (by omega)
  have n3 : hdN (pcT N E L I ds) 16 2 = L := by
    rw [e, ← List.append_assoc, ← List.append_assoc, hdN_at (pcM ++ layL N 6 ++ layL E 6) (layL L 2) _ 16 2 (by simp [layL_len]) (by rw [layL_len])]; exact low_lay 2 L (by omega)
  have n4 : hdN (pcT N E L I ds) 18 2 = I := by
    rw [e, ← List.append_assoc, ← List.append_assoc, ← List.append_assoc, hdN_at (pcM ++ layL N 6 ++ layL E 6 ++ layL L 2) (layL I 2) _ 18 2 (by simp [layL_len]) (by rw [layL_len])]; exact low_lay 2 I (by omega)
  rw [n1, n2, n3, n4]
theorem pcDt_pcT {N E L I : Nat} {ds : List UInt8} (hN : N < 281474976710656) (hE : E < 281474976710656) (hL : L < 65536) (hI : I < 65536) (hd : ds.length = (⟨N, E, L, I⟩ : Lb).w) : pcDt (pcT N E L I ds) = ds := by
  unfold pcDt
  rw [lbRd_pcT hN hE hL hI, ← hd]
  obtain ⟨r, e⟩ := pcT_eq N E L I ds
  have e2 : pcT N E L I ds = (pcM ++ layL N 6 ++ layL E 6 ++ layL L 2 ++ layL I 2) ++ (ds ++ r) := by rw [e]; simp only [List.append_assoc]
  have h20 : 20 = (pcM ++ layL N 6 ++ layL E 6 ++ layL L 2 ++ layL I 2).length := by simp [layL_len]
  rw [e2]
  generalize pcM ++ layL N 6 ++ layL E 6 ++ layL L 2 ++ layL I 2 = q at *
  rw [h20, List.drop_left, List.take_left]
theorem pcOk_pcT {N E L I : Nat} {ds : List UInt8} (hN : N < 281474976710656) (hE : E < 281474976710656) (hL : L < 65536) (hI : I < 65536) (hd : ds.length = (⟨N, E, L, I⟩ : Lb).w) (hn : I < needS L) : pcOk (pcT N E L I ds) = true := by
  unfold pcOk
  rw [lbRd_pcT hN hE hL hI, pcDt_pcT hN hE hL hI hd]
  simp [hn]
end Go.Proofs.YtibepnilhmbpeaaDoor
