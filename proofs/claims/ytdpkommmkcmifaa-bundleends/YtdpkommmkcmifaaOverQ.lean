import Derived.Test.YtdpkommmkcmifaaOne
import Derived.Test.YtdpkommmkcmifaaDecP
import Derived.Test.YtdpkommmkcmifaaRRdr
namespace Go.Proofs.Ytdpkommmkcmifaa
set_option linter.unusedVariables false
set_option linter.unusedSimpArgs false
open Go.RowKit
def blkD (x : Blk) (d : List UInt8) : Blk := { x with d := d }
def setD (b : Bun) (i : Nat) (d : List UInt8) : Bun := { b with bl := b.bl.modify i (fun x => blkD x d) }
theorem setD_len (b : Bun) (i : Nat) (d : List UInt8) : (setD b i d).bl.length = b.bl.length := by simp [setD]
theorem setD_at (b : Bun) (i : Nat) (d : List UInt8) (j : Nat) (hj : j < b.bl.length) : (setD b i d).bl[j]'(by rw [setD_len]; exact hj) = if i = j then blkD b.bl[j] d else b.bl[j] := by
  simp [setD, List.getElem_modify]
theorem setD_t (l : List Blk) (i : Nat) (d : List UInt8) : (l.modify i (fun x => blkD x d)).map (·.t) = l.map (·.t) := by
  apply List.ext_getElem (by simp)
  intro j h1 h2
  simp only [List.getElem_map, List.getElem_modify]
  split <;> rfl
theorem setD_n (l : List Blk) (i : Nat) (d : List UInt8) : (l.modify i (fun x => blkD x d)).map (·.n) = l.map (·.n) := by
  apply List.ext_getElem (by simp)
  intro j h1 h2
  simp only [List.getElem_map, List.getElem_modify]
  split <;> rfl
theorem placeS_map {l m : List Blk} (h : l.map (·.t) = m.map (·.t)) (k : Nat) : placeS l k = placeS m k := by
  have e : ∀ q : List Blk, q.findIdx? (fun x => x.t == k) = (q.map (·.t)).findIdx? (fun t => t == k) := fun q => by rw [List.findIdx?_map]; rfl
  unfold placeS
  rw [e l, e m, h]
theorem typeS_map {l m : List Blk} (h : l.map (·.t) = m.map (·.t)) (t : Nat) : typeS l t = typeS m t := by unfold typeS; rw [placeS_map h]
theorem numbS_map {l m : List Blk} (h : l.map (·.n) = m.map (·.n)) (n : Nat) : numbS l n = numbS m n := by
  have e : ∀ q : List Blk, q.all (fun x => x.n != n) = (q.map (·.n)).all (fun t => t != n) := fun q => by rw [List.all_map]; rfl
  unfold numbS
  rw [e l, e m, h]
theorem GoodB.setD {b : Bun} {i : Nat} {d : List UInt8} (hg : GoodB b) (hi : i < b.bl.length) (hd : dataS b.bl[i].t d = true) : GoodB (setD b i d) := by
  refine ⟨hg.fl, hg.es, hg.ts, ⟨by rw [setD_len]; exact hg.bl.1, fun j hj => ?_⟩, hg.py⟩
  rw [setD_len] at hj
  have h0 := hg.bl.2 j hj
  rw [setD_at b i d j hj]
  unfold blkS at h0 ⊢
  have e1 : ((Go.Proofs.Ytdpkommmkcmifaa.setD b i d).bl.take j).map (·.t) = (b.bl.take j).map (·.t) := by
    rw [List.map_take, List.map_take]
    exact congrArg (List.take j) (setD_t b.bl i d)
  have e2 : ((Go.Proofs.Ytdpkommmkcmifaa.setD b i d).bl.take j).map (·.n) = (b.bl.take j).map (·.n) := by
    rw [List.map_take, List.map_take]
    exact congrArg (List.take j) (setD_n b.bl i d)
  rw [typeS_map e1, numbS_map e2]
  simp only [Bool.and_eq_true] at h0 ⊢
  by_cases e : i = j
  · subst e
    rw [if_pos rfl]
    exact ⟨h0.1, h0.2.1, h0.2.2.1, hd⟩
  · rw [if_neg e]
    exact h0
theorem Bun.ok.setD {b : Bun} {i : Nat} {d : List UInt8} (h : b.ok) (hd : d.length ≤ 140737488351232) : (setD b i d).ok := by
  refine ⟨h.fl, h.e0, h.e1, h.e2, h.e3, h.e4, h.e5, h.tm, h.sq, h.lf, fun x hx => ?_, by rw [setD_len]; exact h.bn, h.py⟩
  obtain ⟨j, hj, rfl⟩ := List.getElem_of_mem hx
  rw [setD_len] at hj
  rw [setD_at b i d j hj]
  have hk := h.bl _ (List.getElem_mem hj)
  split
  · exact ⟨hk.1, hk.2.1, hk.2.2.1, hd⟩
  · exact hk
theorem rNum_dgm (n m : Nat) (h : n ≤ m) (h2 : n < 18446744073709551616) (ys : List UInt8) : rNum m (dg n ++ ys) 0 = (n, (dg n).length, 0) := by
  have e := numS_dg n h2 ys
  rw [rNum_ok (by rw [e]) (by rw [e]; exact h), e]
theorem hop_new (l c : Nat) (h1 : 1 ≤ l) (h2 : l ≤ 255) (h3 : c ≤ l) : (hopS (dgs [l, c])).2.2 = 0 := by
  have e : dgs [l, c] = dg l ++ (dg c ++ []) := by simp [dgs]
  rw [e]
  unfold hopS
  rw [rNum_dgm l 255 h2 (by omega)]
  simp only
  have hm : mustF (decide ((1 : Int) ≤ (l : Nat))) 0 = 0 := by unfold mustF; rw [if_pos (by simp; omega)]
  rw [hm, List.drop_left' rfl, rNum_dgm c l h3 (by omega)]
  simp only
  rw [List.drop_left' rfl]
  rfl
theorem age_new (n : Nat) (h : n ≤ 281474976710655) : (ageS (dgs [n])).2 = 0 := by
  have e : dgs [n] = dg n ++ [] := by simp [dgs]
  rw [e]
  unfold ageS
  rw [rNum_dgm n _ h (by omega)]
  simp only
  rw [List.drop_left' rfl]
  rfl
theorem rNum_le_m (m : Nat) (ys : List UInt8) (f : Int) : (rNum m ys f).1 ≤ m := by
  by_cases hf : f = 0
  · subst hf
    by_cases he : (numS ys).2.2 = 0
    · by_cases hm : (numS ys).1 ≤ m
      · rw [rNum_ok he hm]; exact hm
      · rw [rNum_big he hm]; exact Nat.zero_le _
    · rw [rNum_bad he]; exact Nat.zero_le _
  · rw [rNum_f hf]; exact Nat.zero_le _
theorem rNum_zero {m : Nat} {ys : List UInt8} {f : Int} (h : (rNum m ys f).2.2 = 0) : f = 0 ∧ (numS ys).2.2 = 0 ∧ (numS ys).1 ≤ m := by
  by_cases hf : f = 0
  · subst hf
    by_cases he : (numS ys).2.2 = 0
    · by_cases hm : (numS ys).1 ≤ m
      · exact ⟨rfl, he, hm⟩
      · rw [rNum_big he hm] at h; cases h
    · rw [rNum_bad he] at h; simp at h; exact absurd h he
  · rw [rNum_f hf] at h; exact absurd h hf
theorem hop_vals {xs : List UInt8} (h : (hopS xs).2.2 = 0) : 1 ≤ (hopS xs).1 ∧ (hopS xs).1 ≤ 255 ∧ (hopS xs).2.1 ≤ (hopS xs).1 ∧ (twoS xs).1 = (hopS xs).1 ∧ (twoS xs).2.1 = (hopS xs).2.1 := by
  have ht := hop_two xs
  rw [h] at ht
  have ht : (twoS xs).2.2 = true ∧ 1 ≤ (twoS xs).1 ∧ (twoS xs).1 ≤ 255 ∧ (twoS xs).2.1 ≤ (twoS xs).1 := by simpa using ht.symm
  obtain ⟨t1, t2, t3, t4⟩ := ht
  have t1' : (eidS xs 0).2.2.2 = 0 := by unfold twoS at t1; simp at t1; exact t1.1
  have hk : (hopS xs).1 = (twoS xs).1 ∧ (hopS xs).2.1 = (twoS xs).2.1 := by
    unfold eidS at t1'
    simp only at t1'
    obtain ⟨u1, u2, u3⟩ := rNum_zero t1'
    obtain ⟨-, v2, v3⟩ := rNum_zero u1
    unfold twoS eidS at t2 t3 t4 ⊢
    unfold hopS
    simp only at t2 t3 t4 ⊢
    rw [rNum_ok v2 v3] at t2 t3 t4 u2 u3 ⊢
    simp only at t2 t3 t4 u2 u3 ⊢
    rw [rNum_ok u2 u3] at t4 ⊢
    simp only at t4 ⊢
    rw [rNum_ok v2 t3]
    simp only
    have hm : mustF (decide ((1 : Int) ≤ (((numS xs).1 : Nat) : Int))) 0 = 0 := by unfold mustF; rw [if_pos (by simp; omega)]
    rw [hm, rNum_ok u2 t4]
    constructor <;> first | rfl | trivial
  omega
/-- what Hop makes of a block's data -/
def hopTurn (xs : List UInt8) : Option (List UInt8) := if (hopS xs).2.1 = (hopS xs).1 then none else some (dgs [(hopS xs).1, (hopS xs).2.1 + 1])
/-- what Aged makes of a block's data -/
def ageTurn (t : Nat) (xs : List UInt8) : Option (List UInt8) := if 281474976710655 - (ageS xs).1 < t then none else some (dgs [(ageS xs).1 + t])
theorem hopTurn_ok {xs d : List UInt8} (h : dataS 10 xs = true) (ht : hopTurn xs = some d) : dataS 10 d = true := by
  unfold dataS holdsS at h
  simp at h
  obtain ⟨h1, h2, h3, -, -⟩ := hop_vals h.2
  unfold hopTurn at ht
  split at ht
  · cases ht
  · simp only [Option.some.injEq] at ht
    subst ht
    have hn := hop_new (hopS xs).1 ((hopS xs).2.1 + 1) h1 h2 (by omega)
    have hl := dgs_len [(hopS xs).1, (hopS xs).2.1 + 1] (by intro n hn; simp at hn; omega)
    unfold dataS holdsS
    simp [hn]
    simp at hl
    omega
theorem ageTurn_ok {xs d : List UInt8} {t : Nat} (ht : ageTurn t xs = some d) : dataS 7 d = true := by
  have h1 : (ageS xs).1 ≤ 281474976710655 := rNum_le_m _ _ _
  unfold ageTurn at ht
  split at ht
  · cases ht
  · simp only [Option.some.injEq] at ht
    subst ht
    have hn := age_new ((ageS xs).1 + t) (by omega)
    have hl := dgs_len [(ageS xs).1 + t] (by intro n hn; simp at hn; omega)
    unfold dataS holdsS
    simp [hn]
    simp at hl
    omega
/-- what Hop and Aged answer -/
def TurnIs (b : Bun) (kind : Nat) (f : List UInt8 → Option (List UInt8)) (o : Bun) (n : Int) : Prop :=
  (ValidIs b n ∧ n ≠ 0 ∧ o = zeroB) ∨
  (ValidIs b 0 ∧ placeS b.bl kind = -1 ∧ n = 4 ∧ o = zeroB) ∨
  (ValidIs b 0 ∧ ∃ i, ∃ hi : i < b.bl.length, placeS b.bl kind = (i : Int) ∧ f b.bl[i].d = none ∧ n = 6 ∧ o = zeroB) ∨
  (ValidIs b 0 ∧ ∃ i, ∃ hi : i < b.bl.length, placeS b.bl kind = (i : Int) ∧ ∃ d, f b.bl[i].d = some d ∧ n = fitsS (setD b i d) ∧ o = if n = 0 then setD b i d else zeroB)
theorem TurnIs.same {b : Bun} {kind : Nat} {f : List UInt8 → Option (List UInt8)} {o o' : Bun} {n n' : Int} (h : TurnIs b kind f o n) (k : TurnIs b kind f o' n') : o = o' ∧ n = n' := by
  rcases h with ⟨h1, h2, rfl⟩ | ⟨h1, h2, rfl, rfl⟩ | ⟨h1, i, hi, h2, h3, rfl, rfl⟩ | ⟨h1, i, hi, h2, d, h3, rfl, rfl⟩ <;> rcases k with ⟨k1, k2, rfl⟩ | ⟨k1, k2, rfl, rfl⟩ | ⟨k1, j, hj, k2, k3, rfl, rfl⟩ | ⟨k1, j, hj, k2, d', k3, rfl, rfl⟩
  · exact ⟨rfl, h1.same k1⟩
  · exact absurd (h1.same k1) h2
  · exact absurd (h1.same k1) h2
  · exact absurd (h1.same k1) h2
  · exact absurd (k1.same h1) k2
  · exact ⟨rfl, rfl⟩
  · omega
  · omega
  · exact absurd (k1.same h1) k2
  · omega
  · exact ⟨rfl, rfl⟩
  · obtain rfl : i = j := by omega
    rw [h3] at k3
    cases k3
  · exact absurd (k1.same h1) k2
  · omega
  · obtain rfl : i = j := by omega
    rw [h3] at k3
    cases k3
  · obtain rfl : i = j := by omega
    rw [h3] at k3
    obtain rfl : d = d' := by simpa using k3
    constructor <;> first | rfl | trivial
end Go.Proofs.Ytdpkommmkcmifaa
namespace Go.Proofs.Ytdpkommmkcmifaa
set_option linter.unusedVariables false
set_option linter.unusedSimpArgs false
open Go.RowKit
theorem nmS_dg (n m : Nat) (h : n ≤ m) (h2 : n < 18446744073709551616) (ys : List UInt8) : nmS m (dg n ++ ys, 0) = (n, ys, 0) := by
  unfold nmS
  simp only
  rw [rNum_dgm n m h h2 ys]
  simp only
  rw [List.drop_left' rfl]
theorem ahS_dgm (n m : Nat) (h : n ≤ m) (h2 : n < 18446744073709551616) (ys : List UInt8) : ahS m (dg n ++ ys) = (n, (dg n).length, 0) := by
  unfold ahS
  rw [numS_dg n h2 ys]
  rw [if_neg (by simp only; omega)]
theorem byS_dg (m : Nat) (b ys : List UInt8) (h : b.length ≤ m) (h2 : b.length < 18446744073709551616) : byS (m : Int) (dg b.length ++ (b ++ ys), 0) = (b, ys, 0) := by
  have e : rBytes (m : Int) (dg b.length ++ (b ++ ys)) 0 = (b, (dg b.length).length + b.length, 0) := by
    unfold rBytes
    rw [if_pos rfl, if_neg (by omega), Int.toNat_natCast, ahS_dgm _ _ h h2]
    simp only [if_true]
    rw [if_neg (by simp only [List.length_append]; omega), List.drop_left' rfl, List.take_left' rfl]
  unfold byS
  simp only
  rw [e]
  simp only
  rw [← List.append_assoc, List.drop_left' (by rw [List.length_append])]
theorem muS_t (s : List UInt8 × Int) : muS true s = s := by unfold muS mustF; rw [if_pos rfl]
/-- a good block is read as it was laid -/
theorem blockS_enc (l : List Blk) (x : Blk) (h : blkS l x = true) (hok : x.ok) (ys : List UInt8) : blockS l (encBlk x ++ ys, 0) = (x, ys, 0) := by
  have h' := h
  unfold blkS at h'
  simp only [Bool.and_eq_true] at h'
  obtain ⟨h1, h2, h3, h4⟩ := h'
  have hd : x.d.length ≤ 64 := by unfold dataS at h4; simp at h4; exact h4.1
  have ht : x.t ≤ 281474976710655 := by unfold typeS at h1; simp at h1; omega
  have hn : x.n ≤ 281474976710655 := by unfold numbS at h2; simp at h2; omega
  have hf : x.f ≤ 281474976710655 := by simp at h3; omega
  have e : encBlk x ++ ys = dg x.t ++ (dg x.n ++ (dg x.f ++ (dg x.d.length ++ (x.d ++ ys)))) := by
    unfold encBlk dgs
    simp [List.append_assoc]
  unfold blockS
  rw [e, nmS_dg x.t _ ht hok.1]
  simp only
  rw [h1, muS_t, nmS_dg x.n _ hn hok.2.1]
  simp only
  rw [h2, muS_t, nmS_dg x.f _ hf hok.2.2.1]
  simp only
  rw [h3, muS_t]
  have hb := byS_dg 64 x.d ys hd (by omega)
  rw [show ((64 : Nat) : Int) = 64 from rfl] at hb
  rw [hb]
  simp only
  rw [h4, muS_t]
theorem blocksS_enc : ∀ (r l : List Blk) (ys : List UInt8), (∀ i (h : i < (l ++ r).length), blkS ((l ++ r).take i) (l ++ r)[i] = true) → (∀ x ∈ r, x.ok) → blocksS r.length l (encBlks r ++ ys, 0) = (l ++ r, ys, 0)
  | [], l, ys, _, _ => by simp [blocksS, encBlks]
  | x :: r, l, ys, h, hok => by
    have hx : blkS l x = true := by
      have := h l.length (by simp)
      simpa using this
    have e : encBlks (x :: r) ++ ys = encBlk x ++ (encBlks r ++ ys) := by simp [encBlks, List.append_assoc]
    rw [List.length_cons, blocksS_step _ _ _ rfl, e, blockS_enc l x hx (hok x (by simp))]
    simp only
    have := blocksS_enc r (l ++ [x]) ys (by intro i hi; simpa using h i (by simpa using hi)) (fun y hy => hok y (by simp [hy]))
    rw [this]
    simp
theorem tkS_one (c : UInt8) (ys : List UInt8) : tkS 1 (c :: ys, 0) = ([c], ys, 0) := by
  have h : ¬ ((ys.length : Int) + 1 < 1) := by omega
  unfold tkS rTake
  simp [h]
/-- what is read of a good bundle's text, its payload aside -/
theorem readS_pre (b : Bun) (hg : GoodB b) (hok : b.ok) (ys : List UInt8) : readS (pref b b.bl.length ++ ys, 0) = ({ b with py := (byS 512 (ys, 0)).1 }, (byS 512 (ys, 0)).2) := by
  have h8 := hg.bl.1
  have hes := hg.es
  have hts := hg.ts
  have hfl := hg.fl
  unfold numsS at hes hts
  simp at hes hts
  have e : pref b b.bl.length ++ ys = 6 :: (dg b.fl ++ (dg b.e0 ++ (dg b.e1 ++ (dg b.e2 ++ (dg b.e3 ++ (dg b.e4 ++ (dg b.e5 ++ (dg b.tm ++ (dg b.sq ++ (dg b.lf ++ (dg b.bl.length ++ (encBlks b.bl ++ ys)))))))))))) := by
    unfold pref dgs
    rw [List.take_length]
    simp [List.append_assoc]
  have hbl := blocksS_enc b.bl [] ys (by simpa using hg.bl.2) hok.bl
  rw [List.nil_append] at hbl
  unfold readS
  rw [e, tkS_one]
  simp only
  rw [show (([6] : List UInt8) == [6]) = true from by decide, muS_t, nmS_dg b.fl _ (by omega) hok.fl]
  simp only
  rw [show decide (b.fl < 8) = true from by simpa using hfl, muS_t, nmS_dg b.e0 _ (by omega) hok.e0]
  simp only
  rw [nmS_dg b.e1 _ (by omega) hok.e1]
  simp only
  rw [nmS_dg b.e2 _ (by omega) hok.e2]
  simp only
  rw [nmS_dg b.e3 _ (by omega) hok.e3]
  simp only
  rw [nmS_dg b.e4 _ (by omega) hok.e4]
  simp only
  rw [nmS_dg b.e5 _ (by omega) hok.e5]
  simp only
  rw [nmS_dg b.tm _ (by omega) hok.tm]
  simp only
  rw [nmS_dg b.sq _ (by omega) hok.sq]
  simp only
  rw [nmS_dg b.lf _ (by omega) hok.lf]
  simp only
  rw [nmS_dg b.bl.length _ (by omega) (by omega)]
  simp only
  rw [show decide (b.bl.length ≤ 8) = true from by simpa using h8, muS_t, hbl]
theorem byS_py (b ys : List UInt8) (h : b.length ≤ 512) : byS 512 (dg b.length ++ (b ++ ys), 0) = (b, ys, 0) := by
  have hb := byS_dg 512 b ys h (by omega)
  rw [show ((512 : Nat) : Int) = 512 from rfl] at hb
  exact hb
/-- what Encode answers Decode reads as that bundle -/
theorem decS_enc (b : Bun) (hg : GoodB b) (hok : b.ok) (hl : (encB b).length ≤ 1024) : decS (encB b) = (b, 0) := by
  have e : encB b = pref b b.bl.length ++ (dg b.py.length ++ (b.py ++ [])) := by rw [← pref_all, List.append_nil]
  have hr : readS (encB b, 0) = (b, [], 0) := by
    rw [e, readS_pre b hg hok, byS_py b.py [] hg.py]
  unfold decS
  rw [if_neg (by omega), hr]
  simp [rEnd]
/-- a byte more -/
theorem decS_more (b : Bun) (c : UInt8) (hg : GoodB b) (hok : b.ok) (hl : (encB b).length < 1024) : decS (encB b ++ [c]) = (zeroB, 11) := by
  have e : encB b ++ [c] = pref b b.bl.length ++ (dg b.py.length ++ (b.py ++ [c])) := by rw [← pref_all]; simp [List.append_assoc]
  have hr : readS (encB b ++ [c], 0) = (b, [c], 0) := by
    rw [e, readS_pre b hg hok, byS_py b.py [c] hg.py]
  unfold decS
  rw [if_neg (by rw [List.length_append]; simp; omega), hr]
  simp [rEnd]
theorem decS_long (xs : List UInt8) (h : 1024 < xs.length) : decS xs = (zeroB, 81) := by
  unfold decS
  rw [if_pos h]
theorem dg_ne (n : Nat) : dg n ≠ [] := by unfold dg; simp
/-- a payload's text that lacks its last byte -/
theorem byS_cut (b : List UInt8) (h : b.length ≤ 512) : ∃ d y, byS 512 ((dg b.length ++ b).dropLast, 0) = (d, y, 10) := by
  rcases List.eq_nil_or_concat b with rfl | ⟨r, c, rfl⟩
  · refine ⟨[], [], ?_⟩
    have e : (dg ([] : List UInt8).length ++ []).dropLast = [] := by simp [dg, hiD, hiF_zero]
    rw [e]
    have hn : numS ([] : List UInt8) = (0, 0, 10) := by first | rfl | decide
    have ha : ahS 512 ([] : List UInt8) = (0, 0, 10) := by unfold ahS; rw [hn]; simp
    have hr : rBytes 512 ([] : List UInt8) 0 = ([], 0, 10) := by
      unfold rBytes
      rw [if_pos rfl, if_neg (by decide), show (512 : Int).toNat = 512 from rfl, ha]
      simp
    unfold byS
    simp only
    rw [hr]
    rfl
  · have e : (dg (r ++ [c]).length ++ (r ++ [c])).dropLast = dg (r ++ [c]).length ++ r := by rw [← List.append_assoc, List.dropLast_concat]
    rw [List.concat_eq_append] at h ⊢
    rw [e]
    refine ⟨[], dg (r ++ [c]).length ++ r, ?_⟩
    have hr : rBytes 512 (dg (r ++ [c]).length ++ r) 0 = ([], 0, 10) := by
      unfold rBytes
      rw [if_pos rfl, if_neg (by decide), show (512 : Int).toNat = 512 from rfl, ahS_dgm _ 512 h (by omega)]
      simp only [if_true]
      rw [if_pos (by simp)]
    unfold byS
    simp only
    rw [hr]
    rfl
/-- a byte less -/
theorem decS_less (b : Bun) (hg : GoodB b) (hok : b.ok) (hl : (encB b).length ≤ 1024) : decS (encB b).dropLast = (zeroB, 10) := by
  have hne : dg b.py.length ++ b.py ≠ [] := by simp [dg_ne]
  have e : (encB b).dropLast = pref b b.bl.length ++ (dg b.py.length ++ b.py).dropLast := by rw [← pref_all, List.dropLast_append_of_ne_nil hne]
  obtain ⟨d, y, hc⟩ := byS_cut b.py hg.py
  have hr : readS ((encB b).dropLast, 0) = ({ b with py := d }, y, 10) := by rw [e, readS_pre b hg hok, hc]
  unfold decS
  rw [if_neg (by rw [List.length_dropLast]; omega), hr]
  simp [rEnd]
end Go.Proofs.Ytdpkommmkcmifaa
namespace Go.Proofs.Ytdpkommmkcmifaa
set_option linter.unusedVariables false
set_option linter.unusedSimpArgs false
open Go.RowKit
theorem ahS_ok (m : Nat) (ys : List UInt8) (n k : Nat) (h : ahS m ys = (n, k, 0)) : 1 ≤ k ∧ k ≤ ys.length ∧ ys.take k = dg n ∧ n < 18446744073709551616 := by
  unfold ahS at h
  split at h
  · simp at h
  · have h1 := numS_one ys n k h
    have h2 := (numS_lt ys).1
    rw [h] at h2
    exact ⟨h1.1, h1.2.1, h1.2.2, h2⟩
theorem rNum_okO (m : Nat) (ys : List UInt8) (f : Int) (n k : Nat) (h : rNum m ys f = (n, k, 0)) : 1 ≤ k ∧ k ≤ ys.length ∧ ys.take k = dg n ∧ n < 18446744073709551616 := by
  unfold rNum at h
  split at h
  · split at h
    · rename_i h1
      simp only [Prod.mk.injEq] at h
      exact ahS_ok m ys n k (by rw [← h.1, ← h.2.1, ← h1])
    · rename_i h1
      simp only [Prod.mk.injEq] at h
      omega
  · rename_i h1
    simp only [Prod.mk.injEq] at h
    exact absurd h.2.2 h1
theorem rNum_badO (m : Nat) (ys : List UInt8) (f : Int) (n k : Nat) (e : Int) (h : rNum m ys f = (n, k, e)) (he : e ≠ 0) : k = 0 := by
  unfold rNum at h
  split at h
  · split at h
    · simp only [Prod.mk.injEq] at h
      omega
    · simp only [Prod.mk.injEq] at h
      omega
  · simp only [Prod.mk.injEq] at h
    omega
theorem rTake_all (n : Int) (ys : List UInt8) (f : Int) (zs : List UInt8) (k : Nat) (e : Int) (h : rTake n ys f = (zs, k, e)) : zs = ys.take k ∧ k ≤ ys.length ∧ (e ≠ 0 → k = 0) := by
  unfold rTake at h
  split at h
  · split at h
    · simp only [Prod.mk.injEq] at h
      obtain ⟨rfl, rfl, rfl⟩ := h
      simp
    · split at h
      · simp only [Prod.mk.injEq] at h
        obtain ⟨rfl, rfl, rfl⟩ := h
        simp
      · simp only [Prod.mk.injEq] at h
        obtain ⟨rfl, rfl, rfl⟩ := h
        refine ⟨rfl, by omega, fun h => absurd rfl h⟩
  · simp only [Prod.mk.injEq] at h
    obtain ⟨rfl, rfl, rfl⟩ := h
    simp
theorem rBytes_ok (n : Int) (ys : List UInt8) (f : Int) (zs : List UInt8) (k : Nat) (h : rBytes n ys f = (zs, k, 0)) : dg zs.length ++ zs = ys.take k ∧ k ≤ ys.length ∧ (dg zs.length).length + zs.length = k := by
  unfold rBytes at h
  split at h
  · split at h
    · simp at h
    · split at h
      · rename_i h1
        obtain ⟨N, K, E, hN⟩ : ∃ N K E : Nat, ahS n.toNat ys = (N, K, E) := ⟨_, _, _, rfl⟩
        rw [hN] at h h1
        simp only at h h1
        subst h1
        have h2 := ahS_ok _ _ _ _ hN
        split at h
        · simp at h
        · rename_i h3
          simp only [Prod.mk.injEq, and_true] at h
          obtain ⟨rfl, rfl⟩ := h
          have hz : ((ys.drop K).take N).length = N := by simp; omega
          rw [hz, ← h2.2.2.1]
          refine ⟨?_, by omega, by simp; omega⟩
          rw [List.take_add]
      · rename_i h1
        simp only [Prod.mk.injEq] at h
        omega
  · rename_i h1
    simp only [Prod.mk.injEq] at h
    exact absurd h.2.2 h1
theorem rBytes_bad (n : Int) (ys : List UInt8) (f : Int) (zs : List UInt8) (k : Nat) (e : Int) (h : rBytes n ys f = (zs, k, e)) (he : e ≠ 0) : k = 0 := by
  unfold rBytes at h
  split at h
  · split at h
    · simp only [Prod.mk.injEq] at h
      omega
    · split at h
      · split at h
        · simp only [Prod.mk.injEq] at h
          omega
        · simp only [Prod.mk.injEq] at h
          omega
      · simp only [Prod.mk.injEq] at h
        omega
  · simp only [Prod.mk.injEq] at h
    omega
theorem take_drop_add (xs : List UInt8) (p k : Nat) : xs.take p ++ (xs.drop p).take k = xs.take (p + k) := by
  rw [List.take_add]
end Go.Proofs.Ytdpkommmkcmifaa
