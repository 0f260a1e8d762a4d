import Derived.Test.YtdpkommmkcmifabWValids
import Derived.Test.YtdpkommmkcmifabRef2
import Derived.Test.YtdpkommmkcmifabOne
namespace Go.Proofs.Ytdpkommmkcmifab
set_option linter.unusedVariables false
set_option linter.unusedSimpArgs false
open Go.RowKit
def zeroB : Bun := ⟨0, 0, 0, 0, 0, 0, 0, 0, 0, 0, [], []⟩
theorem zeroB_R (w : World) : BunR w zeroB none 0 none 0 :=
  ⟨fun h => absurd h (Nat.lt_irrefl 0), Nat.le_refl _, fun _ => rfl, Rd.nil _ _, Nat.le_refl _, fun _ => rfl, ⟨by decide, by decide, by decide, by decide, by decide, by decide, by decide, by decide, by decide, by decide, fun x hx => (by cases hx), by decide, by decide⟩⟩
def blkD (x : Blk) (d : List UInt8) : Blk := { x with d := d }
def setD (b : Bun) (i : Nat) (d : List UInt8) : Bun := { b with bl := b.bl.modify i (fun x => blkD x d) }
theorem setD_len (b : Bun) (i : Nat) (d : List UInt8) : (setD b i d).bl.length = b.bl.length := by simp [setD]
theorem setD_at (b : Bun) (i : Nat) (d : List UInt8) (j : Nat) (hj : j < b.bl.length) : (setD b i d).bl[j]'(by rw [setD_len]; exact hj) = if i = j then blkD b.bl[j] d else b.bl[j] := by
  simp [setD, List.getElem_modify]
theorem setD_t (l : List Blk) (i : Nat) (d : List UInt8) : (l.modify i (fun x => blkD x d)).map (·.t) = l.map (·.t) := by
  apply List.ext_getElem (by simp)
  intro j h1 h2
  simp only [List.getElem_map, List.getElem_modify]
  split <;> rfl
theorem setD_n (l : List Blk) (i : Nat) (d : List UInt8) : (l.modify i (fun x => blkD x d)).map (·.n) = l.map (·.n) := by
  apply List.ext_getElem (by simp)
  intro j h1 h2
  simp only [List.getElem_map, List.getElem_modify]
  split <;> rfl
theorem placeS_map {l m : List Blk} (h : l.map (·.t) = m.map (·.t)) (k : Nat) : placeS l k = placeS m k := by
  have e : ∀ q : List Blk, q.findIdx? (fun x => x.t == k) = (q.map (·.t)).findIdx? (fun t => t == k) := fun q => by rw [List.findIdx?_map]; rfl
  unfold placeS
  rw [e l, e m, h]
theorem typeS_map {l m : List Blk} (h : l.map (·.t) = m.map (·.t)) (t : Nat) : typeS l t = typeS m t := by unfold typeS; rw [placeS_map h]
theorem numbS_map {l m : List Blk} (h : l.map (·.n) = m.map (·.n)) (n : Nat) : numbS l n = numbS m n := by
  have e : ∀ q : List Blk, q.all (fun x => x.n != n) = (q.map (·.n)).all (fun t => t != n) := fun q => by rw [List.all_map]; rfl
  unfold numbS
  rw [e l, e m, h]
theorem GoodB.setD {b : Bun} {i : Nat} {d : List UInt8} (hg : GoodB b) (hi : i < b.bl.length) (hd : dataS b.bl[i].t d = true) : GoodB (setD b i d) := by
  refine ⟨hg.fl, hg.es, hg.ts, ⟨by rw [setD_len]; exact hg.bl.1, fun j hj => ?_⟩, hg.py⟩
  rw [setD_len] at hj
  have h0 := hg.bl.2 j hj
  rw [setD_at b i d j hj]
  unfold blkS at h0 ⊢
  have e1 : ((Go.Proofs.Ytdpkommmkcmifab.setD b i d).bl.take j).map (·.t) = (b.bl.take j).map (·.t) := by
    rw [List.map_take, List.map_take]
    exact congrArg (List.take j) (setD_t b.bl i d)
  have e2 : ((Go.Proofs.Ytdpkommmkcmifab.setD b i d).bl.take j).map (·.n) = (b.bl.take j).map (·.n) := by
    rw [List.map_take, List.map_take]
    exact congrArg (List.take j) (setD_n b.bl i d)
  rw [typeS_map e1, numbS_map e2]
  simp only [Bool.and_eq_true] at h0 ⊢
  by_cases e : i = j
  · subst e
    rw [if_pos rfl]
    exact ⟨h0.1, h0.2.1, h0.2.2.1, hd⟩
  · rw [if_neg e]
    exact h0
theorem Bun.ok.setD {b : Bun} {i : Nat} {d : List UInt8} (h : b.ok) (hd : d.length ≤ 140737488351232) : (setD b i d).ok := by
  refine ⟨h.fl, h.e0, h.e1, h.e2, h.e3, h.e4, h.e5, h.tm, h.sq, h.lf, fun x hx => ?_, by rw [setD_len]; exact h.bn, h.py⟩
  obtain ⟨j, hj, rfl⟩ := List.getElem_of_mem hx
  rw [setD_len] at hj
  rw [setD_at b i d j hj]
  have hk := h.bl _ (List.getElem_mem hj)
  split
  · exact ⟨hk.1, hk.2.1, hk.2.2.1, hd⟩
  · exact hk
theorem rNum_dgm (n m : Nat) (h : n ≤ m) (h2 : n < 18446744073709551616) (ys : List UInt8) : rNum m (dg n ++ ys) 0 = (n, (dg n).length, 0) := by
  have e := numS_dg n h2 ys
  rw [rNum_ok (by rw [e]) (by rw [e]; exact h), e]
theorem hop_new (l c : Nat) (h1 : 1 ≤ l) (h2 : l ≤ 255) (h3 : c ≤ l) : (hopS (dgs [l, c])).2.2 = 0 := by
  have e : dgs [l, c] = dg l ++ (dg c ++ []) := by simp [dgs]
  rw [e]
  unfold hopS
  rw [rNum_dgm l 255 h2 (by omega)]
  simp only
  have hm : mustF (decide ((1 : Int) ≤ (l : Nat))) 0 = 0 := by unfold mustF; rw [if_pos (by simp; omega)]
  rw [hm, List.drop_left' rfl, rNum_dgm c l h3 (by omega)]
  simp only
  rw [List.drop_left' rfl]
  rfl
theorem age_new (n : Nat) (h : n ≤ 281474976710655) : (ageS (dgs [n])).2 = 0 := by
  have e : dgs [n] = dg n ++ [] := by simp [dgs]
  rw [e]
  unfold ageS
  rw [rNum_dgm n _ h (by omega)]
  simp only
  rw [List.drop_left' rfl]
  rfl
theorem rNum_le_m (m : Nat) (ys : List UInt8) (f : Int) : (rNum m ys f).1 ≤ m := by
  by_cases hf : f = 0
  · subst hf
    by_cases he : (numS ys).2.2 = 0
    · by_cases hm : (numS ys).1 ≤ m
      · rw [rNum_ok he hm]; exact hm
      · rw [rNum_big he hm]; exact Nat.zero_le _
    · rw [rNum_bad he]; exact Nat.zero_le _
  · rw [rNum_f hf]; exact Nat.zero_le _
theorem rNum_zero {m : Nat} {ys : List UInt8} {f : Int} (h : (rNum m ys f).2.2 = 0) : f = 0 ∧ (numS ys).2.2 = 0 ∧ (numS ys).1 ≤ m := by
  by_cases hf : f = 0
  · subst hf
    by_cases he : (numS ys).2.2 = 0
    · by_cases hm : (numS ys).1 ≤ m
      · exact ⟨rfl, he, hm⟩
      · rw [rNum_big he hm] at h; cases h
    · rw [rNum_bad he] at h; simp at h; exact absurd h he
  · rw [rNum_f hf] at h; exact absurd h hf
theorem hop_vals {xs : List UInt8} (h : (hopS xs).2.2 = 0) : 1 ≤ (hopS xs).1 ∧ (hopS xs).1 ≤ 255 ∧ (hopS xs).2.1 ≤ (hopS xs).1 ∧ (twoS xs).1 = (hopS xs).1 ∧ (twoS xs).2.1 = (hopS xs).2.1 := by
  have ht := hop_two xs
  rw [h] at ht
  have ht : (twoS xs).2.2 = true ∧ 1 ≤ (twoS xs).1 ∧ (twoS xs).1 ≤ 255 ∧ (twoS xs).2.1 ≤ (twoS xs).1 := by simpa using ht.symm
  obtain ⟨t1, t2, t3, t4⟩ := ht
  have t1' : (eidS xs 0).2.2.2 = 0 := by unfold twoS at t1; simp at t1; exact t1.1
  have hk : (hopS xs).1 = (twoS xs).1 ∧ (hopS xs).2.1 = (twoS xs).2.1 := by
    unfold eidS at t1'
    simp only at t1'
    obtain ⟨u1, u2, u3⟩ := rNum_zero t1'
    obtain ⟨-, v2, v3⟩ := rNum_zero u1
    unfold twoS eidS at t2 t3 t4 ⊢
    unfold hopS
    simp only at t2 t3 t4 ⊢
    rw [rNum_ok v2 v3] at t2 t3 t4 u2 u3 ⊢
    simp only at t2 t3 t4 u2 u3 ⊢
    rw [rNum_ok u2 u3] at t4 ⊢
    simp only at t4 ⊢
    rw [rNum_ok v2 t3]
    simp only
    have hm : mustF (decide ((1 : Int) ≤ (((numS xs).1 : Nat) : Int))) 0 = 0 := by unfold mustF; rw [if_pos (by simp; omega)]
    rw [hm, rNum_ok u2 t4]
    constructor <;> first | rfl | trivial
  omega
/-- what Hop makes of a block's data -/
def hopTurn (xs : List UInt8) : Option (List UInt8) := if (hopS xs).2.1 = (hopS xs).1 then none else some (dgs [(hopS xs).1, (hopS xs).2.1 + 1])
/-- what Aged makes of a block's data -/
def ageTurn (t : Nat) (xs : List UInt8) : Option (List UInt8) := if 281474976710655 - (ageS xs).1 < t then none else some (dgs [(ageS xs).1 + t])
theorem hopTurn_ok {xs d : List UInt8} (h : dataS 10 xs = true) (ht : hopTurn xs = some d) : dataS 10 d = true := by
  unfold dataS holdsS at h
  simp at h
  obtain ⟨h1, h2, h3, -, -⟩ := hop_vals h.2
  unfold hopTurn at ht
  split at ht
  · cases ht
  · simp only [Option.some.injEq] at ht
    subst ht
    have hn := hop_new (hopS xs).1 ((hopS xs).2.1 + 1) h1 h2 (by omega)
    have hl := dgs_len [(hopS xs).1, (hopS xs).2.1 + 1] (by intro n hn; simp at hn; omega)
    unfold dataS holdsS
    simp [hn]
    simp at hl
    omega
theorem ageTurn_ok {xs d : List UInt8} {t : Nat} (ht : ageTurn t xs = some d) : dataS 7 d = true := by
  have h1 : (ageS xs).1 ≤ 281474976710655 := rNum_le_m _ _ _
  unfold ageTurn at ht
  split at ht
  · cases ht
  · simp only [Option.some.injEq] at ht
    subst ht
    have hn := age_new ((ageS xs).1 + t) (by omega)
    have hl := dgs_len [(ageS xs).1 + t] (by intro n hn; simp at hn; omega)
    unfold dataS holdsS
    simp [hn]
    simp at hl
    omega
/-- what Hop and Aged answer -/
def TurnIs (b : Bun) (kind : Nat) (f : List UInt8 → Option (List UInt8)) (o : Bun) (n : Int) : Prop :=
  (ValidIs b n ∧ n ≠ 0 ∧ o = zeroB) ∨
  (ValidIs b 0 ∧ placeS b.bl kind = -1 ∧ n = 4 ∧ o = zeroB) ∨
  (ValidIs b 0 ∧ ∃ i, ∃ hi : i < b.bl.length, placeS b.bl kind = (i : Int) ∧ f b.bl[i].d = none ∧ n = 6 ∧ o = zeroB) ∨
  (ValidIs b 0 ∧ ∃ i, ∃ hi : i < b.bl.length, placeS b.bl kind = (i : Int) ∧ ∃ d, f b.bl[i].d = some d ∧ n = fitsS (setD b i d) ∧ o = if n = 0 then setD b i d else zeroB)
theorem TurnIs.same {b : Bun} {kind : Nat} {f : List UInt8 → Option (List UInt8)} {o o' : Bun} {n n' : Int} (h : TurnIs b kind f o n) (k : TurnIs b kind f o' n') : o = o' ∧ n = n' := by
  rcases h with ⟨h1, h2, rfl⟩ | ⟨h1, h2, rfl, rfl⟩ | ⟨h1, i, hi, h2, h3, rfl, rfl⟩ | ⟨h1, i, hi, h2, d, h3, rfl, rfl⟩ <;> rcases k with ⟨k1, k2, rfl⟩ | ⟨k1, k2, rfl, rfl⟩ | ⟨k1, j, hj, k2, k3, rfl, rfl⟩ | ⟨k1, j, hj, k2, d', k3, rfl, rfl⟩
  · exact ⟨rfl, h1.same k1⟩
  · exact absurd (h1.same k1) h2
  · exact absurd (h1.same k1) h2
  · exact absurd (h1.same k1) h2
  · exact absurd (k1.same h1) k2
  · exact ⟨rfl, rfl⟩
  · omega
  · omega
  · exact absurd (k1.same h1) k2
  · omega
  · exact ⟨rfl, rfl⟩
  · obtain rfl : i = j := by omega
    rw [h3] at k3
    cases k3
  · exact absurd (k1.same h1) k2
  · omega
  · obtain rfl : i = j := by omega
    rw [h3] at k3
    cases k3
  · obtain rfl : i = j := by omega
    rw [h3] at k3
    obtain rfl : d = d' := by simpa using k3
    constructor <;> first | rfl | trivial
end Go.Proofs.Ytdpkommmkcmifab
