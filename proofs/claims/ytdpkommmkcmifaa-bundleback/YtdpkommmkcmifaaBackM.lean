import Derived.Test.YtdpkommmkcmifaaDecF
import Derived.Test.YtdpkommmkcmifaaHopP
namespace Go.Proofs.Ytdpkommmkcmifaa
set_option linter.unusedVariables false
set_option linter.unusedSimpArgs false
open Go.RowKit
theorem nmS_dg (n m : Nat) (h : n ≤ m) (h2 : n < 18446744073709551616) (ys : List UInt8) : nmS m (dg n ++ ys, 0) = (n, ys, 0) := by
  unfold nmS
  simp only
  rw [rNum_dgm n m h h2 ys]
  simp only
  rw [List.drop_left' rfl]
theorem ahS_dgm (n m : Nat) (h : n ≤ m) (h2 : n < 18446744073709551616) (ys : List UInt8) : ahS m (dg n ++ ys) = (n, (dg n).length, 0) := by
  unfold ahS
  rw [numS_dg n h2 ys]
  rw [if_neg (by simp only; omega)]
theorem byS_dg (m : Nat) (b ys : List UInt8) (h : b.length ≤ m) (h2 : b.length < 18446744073709551616) : byS (m : Int) (dg b.length ++ (b ++ ys), 0) = (b, ys, 0) := by
  have e : rBytes (m : Int) (dg b.length ++ (b ++ ys)) 0 = (b, (dg b.length).length + b.length, 0) := by
    unfold rBytes
    rw [if_pos rfl, if_neg (by omega), Int.toNat_natCast, ahS_dgm _ _ h h2]
    simp only [if_true]
    rw [if_neg (by simp only [List.length_append]; omega), List.drop_left' rfl, List.take_left' rfl]
  unfold byS
  simp only
  rw [e]
  simp only
  rw [← List.append_assoc, List.drop_left' (by rw [List.length_append])]
theorem muS_t (s : List UInt8 × Int) : muS true s = s := by unfold muS mustF; rw [if_pos rfl]
/-- a good block is read as it was laid -/
theorem blockS_enc (l : List Blk) (x : Blk) (h : blkS l x = true) (hok : x.ok) (ys : List UInt8) : blockS l (encBlk x ++ ys, 0) = (x, ys, 0) := by
  have h' := h
  unfold blkS at h'
  simp only [Bool.and_eq_true] at h'
  obtain ⟨h1, h2, h3, h4⟩ := h'
  have hd : x.d.length ≤ 64 := by unfold dataS at h4; simp at h4; exact h4.1
  have ht : x.t ≤ 281474976710655 := by unfold typeS at h1; simp at h1; omega
  have hn : x.n ≤ 281474976710655 := by unfold numbS at h2; simp at h2; omega
  have hf : x.f ≤ 281474976710655 := by simp at h3; omega
  have e : encBlk x ++ ys = dg x.t ++ (dg x.n ++ (dg x.f ++ (dg x.d.length ++ (x.d ++ ys)))) := by
    unfold encBlk dgs
    simp [List.append_assoc]
  unfold blockS
  rw [e, nmS_dg x.t _ ht hok.1]
  simp only
  rw [h1, muS_t, nmS_dg x.n _ hn hok.2.1]
  simp only
  rw [h2, muS_t, nmS_dg x.f _ hf hok.2.2.1]
  simp only
  rw [h3, muS_t]
  have hb := byS_dg 64 x.d ys hd (by omega)
  rw [show ((64 : Nat) : Int) = 64 from rfl] at hb
  rw [hb]
  simp only
  rw [h4, muS_t]
theorem blocksS_enc : ∀ (r l : List Blk) (ys : List UInt8), (∀ i (h : i < (l ++ r).length), blkS ((l ++ r).take i) (l ++ r)[i] = true) → (∀ x ∈ r, x.ok) → blocksS r.length l (encBlks r ++ ys, 0) = (l ++ r, ys, 0)
  | [], l, ys, _, _ => by simp [blocksS, encBlks]
  | x :: r, l, ys, h, hok => by
    have hx : blkS l x = true := by
      have := h l.length (by simp)
      simpa using this
    have e : encBlks (x :: r) ++ ys = encBlk x ++ (encBlks r ++ ys) := by simp [encBlks, List.append_assoc]
    rw [List.length_cons, blocksS_step _ _ _ rfl, e, blockS_enc l x hx (hok x (by simp))]
    simp only
    have := blocksS_enc r (l ++ [x]) ys (by intro i hi; simpa using h i (by simpa using hi)) (fun y hy => hok y (by simp [hy]))
    rw [this]
    simp
theorem tkS_one (c : UInt8) (ys : List UInt8) : tkS 1 (c :: ys, 0) = ([c], ys, 0) := by
  have h : ¬ ((ys.length : Int) + 1 < 1) := by omega
  unfold tkS rTake
  simp [h]
/-- what is read of a good bundle's text, its payload aside -/
theorem readS_pre (b : Bun) (hg : GoodB b) (hok : b.ok) (ys : List UInt8) : readS (pref b b.bl.length ++ ys, 0) = ({ b with py := (byS 512 (ys, 0)).1 }, (byS 512 (ys, 0)).2) := by
  have h8 := hg.bl.1
  have hes := hg.es
  have hts := hg.ts
  have hfl := hg.fl
  unfold numsS at hes hts
  simp at hes hts
  have e : pref b b.bl.length ++ ys = 6 :: (dg b.fl ++ (dg b.e0 ++ (dg b.e1 ++ (dg b.e2 ++ (dg b.e3 ++ (dg b.e4 ++ (dg b.e5 ++ (dg b.tm ++ (dg b.sq ++ (dg b.lf ++ (dg b.bl.length ++ (encBlks b.bl ++ ys)))))))))))) := by
    unfold pref dgs
    rw [List.take_length]
    simp [List.append_assoc]
  have hbl := blocksS_enc b.bl [] ys (by simpa using hg.bl.2) hok.bl
  rw [List.nil_append] at hbl
  unfold readS
  rw [e, tkS_one]
  simp only
  rw [show (([6] : List UInt8) == [6]) = true from by decide, muS_t, nmS_dg b.fl _ (by omega) hok.fl]
  simp only
  rw [show decide (b.fl < 8) = true from by simpa using hfl, muS_t, nmS_dg b.e0 _ (by omega) hok.e0]
  simp only
  rw [nmS_dg b.e1 _ (by omega) hok.e1]
  simp only
  rw [nmS_dg b.e2 _ (by omega) hok.e2]
  simp only
  rw [nmS_dg b.e3 _ (by omega) hok.e3]
  simp only
  rw [nmS_dg b.e4 _ (by omega) hok.e4]
  simp only
  rw [nmS_dg b.e5 _ (by omega) hok.e5]
  simp only
  rw [nmS_dg b.tm _ (by omega) hok.tm]
  simp only
  rw [nmS_dg b.sq _ (by omega) hok.sq]
  simp only
  rw [nmS_dg b.lf _ (by omega) hok.lf]
  simp only
  rw [nmS_dg b.bl.length _ (by omega) (by omega)]
  simp only
  rw [show decide (b.bl.length ≤ 8) = true from by simpa using h8, muS_t, hbl]
theorem byS_py (b ys : List UInt8) (h : b.length ≤ 512) : byS 512 (dg b.length ++ (b ++ ys), 0) = (b, ys, 0) := by
  have hb := byS_dg 512 b ys h (by omega)
  rw [show ((512 : Nat) : Int) = 512 from rfl] at hb
  exact hb
/-- what Encode answers Decode reads as that bundle -/
theorem decS_enc (b : Bun) (hg : GoodB b) (hok : b.ok) (hl : (encB b).length ≤ 1024) : decS (encB b) = (b, 0) := by
  have e : encB b = pref b b.bl.length ++ (dg b.py.length ++ (b.py ++ [])) := by rw [← pref_all, List.append_nil]
  have hr : readS (encB b, 0) = (b, [], 0) := by
    rw [e, readS_pre b hg hok, byS_py b.py [] hg.py]
  unfold decS
  rw [if_neg (by omega), hr]
  simp [rEnd]
/-- a byte more -/
theorem decS_more (b : Bun) (c : UInt8) (hg : GoodB b) (hok : b.ok) (hl : (encB b).length < 1024) : decS (encB b ++ [c]) = (zeroB, 11) := by
  have e : encB b ++ [c] = pref b b.bl.length ++ (dg b.py.length ++ (b.py ++ [c])) := by rw [← pref_all]; simp [List.append_assoc]
  have hr : readS (encB b ++ [c], 0) = (b, [c], 0) := by
    rw [e, readS_pre b hg hok, byS_py b.py [c] hg.py]
  unfold decS
  rw [if_neg (by rw [List.length_append]; simp; omega), hr]
  simp [rEnd]
theorem decS_long (xs : List UInt8) (h : 1024 < xs.length) : decS xs = (zeroB, 81) := by
  unfold decS
  rw [if_pos h]
theorem dg_ne (n : Nat) : dg n ≠ [] := by unfold dg; simp
/-- a payload's text that lacks its last byte -/
theorem byS_cut (b : List UInt8) (h : b.length ≤ 512) : ∃ d y, byS 512 ((dg b.length ++ b).dropLast, 0) = (d, y, 10) := by
  rcases List.eq_nil_or_concat b with rfl | ⟨r, c, rfl⟩
  · refine ⟨[], [], ?_⟩
    have e : (dg ([] : List UInt8).length ++ []).dropLast = [] := by simp [dg, hiD, hiF_zero]
    rw [e]
    have hn : numS ([] : List UInt8) = (0, 0, 10) := by first | rfl | decide
    have ha : ahS 512 ([] : List UInt8) = (0, 0, 10) := by unfold ahS; rw [hn]; simp
    have hr : rBytes 512 ([] : List UInt8) 0 = ([], 0, 10) := by
      unfold rBytes
      rw [if_pos rfl, if_neg (by decide), show (512 : Int).toNat = 512 from rfl, ha]
      simp
    unfold byS
    simp only
    rw [hr]
    rfl
  · have e : (dg (r ++ [c]).length ++ (r ++ [c])).dropLast = dg (r ++ [c]).length ++ r := by rw [← List.append_assoc, List.dropLast_concat]
    rw [List.concat_eq_append] at h ⊢
    rw [e]
    refine ⟨[], dg (r ++ [c]).length ++ r, ?_⟩
    have hr : rBytes 512 (dg (r ++ [c]).length ++ r) 0 = ([], 0, 10) := by
      unfold rBytes
      rw [if_pos rfl, if_neg (by decide), show (512 : Int).toNat = 512 from rfl, ahS_dgm _ 512 h (by omega)]
      simp only [if_true]
      rw [if_pos (by simp)]
    unfold byS
    simp only
    rw [hr]
    rfl
/-- a byte less -/
theorem decS_less (b : Bun) (hg : GoodB b) (hok : b.ok) (hl : (encB b).length ≤ 1024) : decS (encB b).dropLast = (zeroB, 10) := by
  have hne : dg b.py.length ++ b.py ≠ [] := by simp [dg_ne]
  have e : (encB b).dropLast = pref b b.bl.length ++ (dg b.py.length ++ b.py).dropLast := by rw [← pref_all, List.dropLast_append_of_ne_nil hne]
  obtain ⟨d, y, hc⟩ := byS_cut b.py hg.py
  have hr : readS ((encB b).dropLast, 0) = ({ b with py := d }, y, 10) := by rw [e, readS_pre b hg hok, hc]
  unfold decS
  rw [if_neg (by rw [List.length_dropLast]; omega), hr]
  simp [rEnd]
end Go.Proofs.Ytdpkommmkcmifaa
